package mailbox_test

import (
	"slices"
	"strconv"
	"testing"

	"postbag/api"
	"postbag/bench"
	"postbag/hart"
	"postbag/image"
	"postbag/items"
	"postbag/machine"
	"postbag/mailbox"
	"postbag/memory"
)

const (
	room       = 1 << 16
	records    = 1 << 13 // where records stand; code ahead of them
	recordSize = 256
	blocksAt   = 1 << 14 // where blocks stand
	blockSize  = 8 * image.BlockWords
	logs       = 1 << 15 // where harts write what they met
	logSize    = 1 << 12
)

func record(n int) uint64 { return records + recordSize*uint64(n) }

func block(n int) uint64 { return blocksAt + blockSize*uint64(n) }

func logOf(h int) uint64 { return logs + logSize*uint64(h) }

// word is where the n-th word behind a place stands.
func word(at uint64, n int) uint64 { return at + 8*uint64(n) }

// most is how many choices a script comes to its end by.
const most = 100000

// Registers that the tests' code keeps while it calls routines.
const (
	note  = 18 // where the next thing met is to be written
	count = 19
	was   = 20
)

func load(t testing.TB, m *memory.Memory, at uint64) uint64 {
	t.Helper()
	v, e := m.Load(at, 8)
	if e != api.OK {
		t.Fatalf("at %d: error %d", at, int(e))
	}
	return v
}

func store(t testing.TB, m *memory.Memory, at, v uint64) {
	t.Helper()
	if e := m.Store(at, 8, v); e != api.OK {
		t.Fatalf("at %d: error %d", at, int(e))
	}
}

// routines are all of the layer, one behind the other.
func routines() []api.Item {
	return slices.Concat(mailbox.Init(), mailbox.Push(), mailbox.Pop())
}

// lay lays code with the routines behind it.
func lay(t testing.TB, m *memory.Memory, parts ...[]api.Item) map[string]uint64 {
	t.Helper()
	at, e := bench.Lay(m, 0, append(parts, routines())...)
	if e != api.OK {
		t.Fatalf("the code has error %d", int(e))
	}
	return at
}

// littered tells a memory in which any numbers stand behind the code.
func littered(t testing.TB, r *bench.Row) *memory.Memory {
	t.Helper()
	m := memory.New(room)
	for at := uint64(records); at < logs; at += 8 {
		store(t, m, at, r.Word())
	}
	return m
}

// called lets a hart call a routine with what x has, and tells what it has when it is back.
func called(t testing.TB, m *memory.Memory, name string, x [32]uint64) [32]uint64 {
	t.Helper()
	w := items.Begin("hart.0")
	w.Jump(items.From, name)
	w.Label("back")
	w.Inst(api.Inst{Op: api.OpEbreak})
	at := lay(t, m, w.Items())
	h, _, e := hart.Run(hart.Hart{X: x}, m, 1000)
	if e != api.ErrHalt || h.PC != at["back"] {
		t.Fatalf("%s: error %d at %d", name, int(e), h.PC)
	}
	return h.X
}

func made(t testing.TB, m *memory.Memory, record uint64) {
	t.Helper()
	called(t, m, "mailbox.init", [32]uint64{10: record})
}

func pushed(t testing.TB, m *memory.Memory, record, block uint64) {
	t.Helper()
	called(t, m, "push", [32]uint64{10: record, 11: block})
}

func popped(t testing.TB, m *memory.Memory, record uint64) uint64 {
	t.Helper()
	return called(t, m, "pop", [32]uint64{10: record})[10]
}

// begun tells a memory with empty queues in the first records.
func begun(t testing.TB, r *bench.Row, queues int) *memory.Memory {
	t.Helper()
	m := littered(t, r)
	for n := range queues {
		made(t, m, record(n))
	}
	return m
}

func name(h int) string { return "hart." + strconv.Itoa(h) }

// call lays a call of a routine of the queue in a record; a block is in 11 already.
func call(w *items.Writer, routine string, record uint64) {
	w.Const(items.First, record)
	w.Jump(items.From, routine)
}

// push lays what writes two words into a block and pushes it.
func push(w *items.Writer, record, block, a, b uint64) {
	w.Const(12, block)
	w.Const(13, a)
	w.Const(14, b)
	w.Store(13, 12, image.BRoot)
	w.Store(14, 12, image.BlockWords-1)
	w.Const(items.Second, block)
	call(w, "push", record)
}

// noted lays what writes down the block that was popped and both its words, and litters it.
func noted(w *items.Writer) {
	w.Load(12, items.First, image.BRoot)
	w.Load(13, items.First, image.BlockWords-1)
	w.Store(items.First, note, 0)
	w.Store(12, note, 1)
	w.Store(13, note, 2)
	w.Number(api.OpAddi, note, note, 24)
	w.Const(12, 1<<63+12345)
	w.Store(12, items.First, image.BNext)
	w.Store(12, items.First, image.BRoot)
	w.Store(12, items.First, image.BlockWords-1)
}

// popper lays what pops till it has so many blocks, and notes each.
func popper(w *items.Writer, h int, record uint64, blocks int) {
	own := items.Own(name(h) + strconv.Itoa(int(record)))
	w.Const(note, logOf(h))
	w.Const(count, uint64(blocks))
	w.Label(own("again"))
	call(w, "pop", record)
	w.Branch(api.OpBeq, items.First, items.Zero, own("again"))
	noted(w)
	w.Number(api.OpAddi, count, count, -1)
	w.Branch(api.OpBne, count, items.Zero, own("again"))
}

func stop(w *items.Writer) []api.Item {
	w.Inst(api.Inst{Op: api.OpEbreak})
	return w.Items()
}

// A met is what a hart noted: a block, and what its words had.
type met struct{ block, a, b uint64 }

// logged are the first things that a hart noted.
func logged(t testing.TB, m *memory.Memory, h, n int) []met {
	t.Helper()
	var l []met
	for k := range n {
		at := word(logOf(h), 3*k)
		l = append(l, met{load(t, m, at), load(t, m, at+8), load(t, m, at+16)})
	}
	return l
}

// started tells a machine on which each hart begins at its label.
func started(t testing.TB, m *memory.Memory, at map[string]uint64, harts int) *machine.Machine {
	t.Helper()
	var pcs []uint64
	for h := range harts {
		pcs = append(pcs, at[name(h)])
	}
	x, e := machine.New(m, pcs)
	if e != api.OK {
		t.Fatalf("no machine: %d", int(e))
	}
	return x
}

// left is the memory of a machine on which all harts have stopped and nothing is open.
func left(t testing.TB, x *machine.Machine) *memory.Memory {
	t.Helper()
	for h := range x.Harts() {
		if e := x.Stopped(h); e != api.ErrHalt || x.Open(h) != 0 {
			t.Fatalf("hart %d: error %d, %d open", h, int(e), x.Open(h))
		}
	}
	b, e := x.Bytes(0, room)
	if e != api.OK {
		t.Fatal(int(e))
	}
	m := memory.New(room)
	m.Put(0, b)
	return m
}

// played plays a script to its end.
func played(t testing.TB, x *machine.Machine, s bench.Script) *memory.Memory {
	t.Helper()
	if !s.Play(x, most) {
		t.Fatalf("it goes on for too long: %+v", s)
	}
	return left(t, x)
}

// swaps are the blocks that were put behind all others in a queue, in the order of all memory.
func swaps(x *machine.Machine, record uint64) []uint64 {
	l, order := x.Trace()
	ops := map[int]api.Op{}
	for _, of := range l {
		for _, op := range of {
			ops[op.ID] = op
		}
	}
	var blocks []uint64
	for _, id := range order {
		op := ops[id]
		if op.Load && op.Store && op.Addr == word(record, image.WTail) && op.Stored != word(record, image.WStub) {
			blocks = append(blocks, op.Stored)
		}
	}
	return blocks
}
