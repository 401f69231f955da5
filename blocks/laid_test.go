package blocks_test

import (
	"slices"
	"strconv"
	"testing"

	"postbag/api"
	"postbag/bench"
	"postbag/blocks"
	"postbag/hart"
	"postbag/image"
	"postbag/items"
	"postbag/machine"
	"postbag/memory"
)

// Behind an image stand the tests' code, and what harts note.
const (
	codeSize = 1 << 14
	logSize  = 256
	behind   = codeSize + api.MaxHarts*logSize
)

// A yard is an image's blocks, in a memory with room behind it.
type yard struct {
	l api.Layout
	n int // blocks
	m *memory.Memory
}

// laid tells the yard of a config.
func laid(t testing.TB, c api.Conf, code, slots int) *yard {
	t.Helper()
	l, e := image.Lay(c, code, slots)
	if e != api.OK {
		t.Fatalf("%+v: error %d", c, int(e))
	}
	built, e := image.Build(c, l, make([]uint32, code))
	if e != api.OK {
		t.Fatalf("%+v: error %d", c, int(e))
	}
	b, _ := built.Bytes(0, built.Len())
	m := memory.New(len(b) + behind)
	m.Put(0, b)
	return &yard{l, c.Blocks, m}
}

// small is a config of few blocks.
func small(blocks int) api.Conf {
	return api.Conf{Harts: 1, Actors: 1, Blocks: blocks, Words: 8, Budget: 1}
}

func (y *yard) block(n int) uint64 { return y.l.Blocks + uint64(n)*y.l.BlockSize }

func (y *yard) logOf(h int) uint64 { return y.l.End + codeSize + uint64(logSize*h) }

// word is where the n-th word behind a place stands.
func word(at uint64, n int) uint64 { return at + 8*uint64(n) }

func load(t testing.TB, m *memory.Memory, at uint64) uint64 {
	t.Helper()
	v, e := m.Load(at, 8)
	if e != api.OK {
		t.Fatalf("at %d: error %d", at, int(e))
	}
	return v
}

func store(t testing.TB, m *memory.Memory, at, v uint64) {
	t.Helper()
	if e := m.Store(at, 8, v); e != api.OK {
		t.Fatalf("at %d: error %d", at, int(e))
	}
}

// top tells GTop: how often it changed, and the number of the first free block and 1.
func (y *yard) top(t testing.TB) (changes, first uint64) {
	t.Helper()
	v := load(t, y.m, word(y.l.Globals, image.GTop))
	return v >> 32, v & (1<<32 - 1)
}

// free tells the numbers of the free blocks, in order.
func (y *yard) free(t testing.TB) []int {
	t.Helper()
	var l []int
	for _, at := y.top(t); at != 0; at = load(t, y.m, word(y.block(int(at-1)), image.BNext)) {
		if at > uint64(y.n) || len(l) == y.n {
			t.Fatalf("behind %d stands %d of %d blocks", l, at, y.n)
		}
		l = append(l, int(at-1))
	}
	return l
}

// lay lays code, with both routines behind it, behind the image.
func (y *yard) lay(t testing.TB, parts ...[]api.Item) map[string]uint64 {
	t.Helper()
	at, e := bench.Lay(y.m, y.l.End, slices.Concat(slices.Concat(parts...), blocks.Alloc(y.l), blocks.Free(y.l)))
	if e != api.OK {
		t.Fatalf("the code has error %d", int(e))
	}
	return at
}

// called lets a hart call a routine, with what x has, and tells what it has when it is back.
func (y *yard) called(t testing.TB, routine string, x [32]uint64) [32]uint64 {
	t.Helper()
	w := items.Begin("hart.0")
	w.Jump(items.From, routine)
	w.Label("back")
	w.Inst(api.Inst{Op: api.OpEbreak})
	at := y.lay(t, w.Items())
	h, _, e := hart.Run(hart.Hart{X: x, PC: at["hart.0"]}, y.m, 1000)
	if e != api.ErrHalt || h.PC != at["back"] {
		t.Fatalf("%s: error %d at %d", routine, int(e), h.PC)
	}
	return h.X
}

func (y *yard) alloc(t testing.TB) uint64 {
	t.Helper()
	return y.called(t, "alloc", [32]uint64{9: y.l.Globals})[10]
}

func (y *yard) give(t testing.TB, block uint64) {
	t.Helper()
	y.called(t, "free", [32]uint64{9: y.l.Globals, 10: block})
}

// bytes are all of the image.
func (y *yard) bytes(t testing.TB) []byte {
	t.Helper()
	b, e := y.m.Bytes(0, int(y.l.End))
	if e != api.OK {
		t.Fatal(int(e))
	}
	return b
}

// changed tells it where bytes are other ones that stand in none of the words that may be.
func (y *yard) changed(t testing.TB, was []byte, may ...uint64) {
	t.Helper()
	for at, b := range y.bytes(t) {
		if b != was[at] && !slices.Contains(may, uint64(at)&^7) {
			t.Fatalf("at %d: %d, not %d any more", at, b, was[at])
		}
	}
}

// numbers are those of so many blocks.
func numbers(n int) []int {
	l := make([]int, n)
	for k := range l {
		l[k] = k
	}
	return l
}

func name(h int) string { return "hart." + strconv.Itoa(h) }

func stop(w *items.Writer) []api.Item {
	w.Inst(api.Inst{Op: api.OpEbreak})
	return w.Items()
}

// started tells a machine on which each hart begins at its label.
func (y *yard) started(t testing.TB, at map[string]uint64, harts int) *machine.Machine {
	t.Helper()
	var pcs []uint64
	for h := range harts {
		pcs = append(pcs, at[name(h)])
	}
	x, e := machine.New(y.m, pcs)
	if e != api.OK {
		t.Fatalf("no machine: %d", int(e))
	}
	return x
}

// left lets the yard's memory be that of a machine on which all harts have stopped, and nothing is open.
func (y *yard) left(t testing.TB, x *machine.Machine) {
	t.Helper()
	for h := range x.Harts() {
		if e := x.Stopped(h); e != api.ErrHalt || x.Open(h) != 0 {
			t.Fatalf("hart %d: error %d, %d open", h, int(e), x.Open(h))
		}
	}
	b, e := x.Bytes(0, y.m.Len())
	if e != api.OK {
		t.Fatal(int(e))
	}
	y.m.Put(0, b)
}
