package sched_test

import (
	"encoding/binary"
	"strconv"
	"testing"

	"postbag/api"
	"postbag/bench"
	"postbag/code"
	"postbag/image"
	"postbag/items"
	"postbag/machine"
	"postbag/memory"
	"postbag/sched"
)

// codeWords is how much code an image of the tests has room for, slots how many each record has.
const (
	codeWords = 2000
	slots     = 6
)

// most is how many choices a script comes to its end by.
const most = 400000

// nowhere is no instruction's place.
const nowhere = 1

// Tags of words.
const (
	tuple = 1
	atom  = 2
	pid   = 3
)

func integer(n int) uint64 { return uint64(n) << 2 }

func actor(n int) uint64 { return uint64(n)<<2 | pid }

// word is where the n-th word behind a place stands.
func word(at uint64, n int) uint64 { return at + 8*uint64(n) }

// A house is an image of sched's code and the tests' own.
type house struct {
	c  api.Conf
	l  api.Layout
	at map[string]uint64
	m  *memory.Memory
}

// built tells a house.
func built(t testing.TB, c api.Conf, own ...[]api.Item) *house {
	t.Helper()
	l, e := image.Lay(c, codeWords, slots)
	if e != api.OK {
		t.Fatalf("%+v: error %d", c, int(e))
	}
	all := sched.Items(c, l)
	for _, i := range own {
		all = append(all, i...)
	}
	words, labels, e := code.Assemble(all, 0)
	if e != api.OK || len(words) > codeWords {
		t.Fatalf("error %d, %d words of code", int(e), len(words))
	}
	m, e := image.Build(c, l, append(words, make([]uint32, codeWords-len(words))...))
	if e != api.OK {
		t.Fatal(int(e))
	}
	h := &house{c: c, l: l, at: map[string]uint64{}, m: m}
	for _, l := range labels {
		h.at[l.Name] = l.At
	}
	return h
}

// started tells a machine whose harts all begin at boot.
func (h *house) started(t testing.TB) *machine.Machine {
	t.Helper()
	x, e := machine.New(h.m, make([]uint64, h.c.Harts))
	if e != api.OK {
		t.Fatal(int(e))
	}
	return x
}

// set stores a word of the memory with which machines start.
func (h *house) set(t testing.TB, at, v uint64) {
	t.Helper()
	if e := h.m.Store(at, 8, v); e != api.OK {
		t.Fatalf("at %d: error %d", at, int(e))
	}
}

func (h *house) global(n int) uint64 { return word(h.l.Globals, n) }

func (h *house) field(actor, n int) uint64 { return word(image.Actor(h.l, actor), n) }

// read tells a word of a machine's memory.
func read(t testing.TB, x *machine.Machine, at uint64) uint64 {
	b, e := x.Bytes(at, 8)
	if e != api.OK {
		t.Fatalf("at %d: error %d", at, int(e))
	}
	return binary.LittleEndian.Uint64(b)
}

// played plays a script to its end: all harts have stopped then, and nothing is open.
func played(t testing.TB, x *machine.Machine, s bench.Script) {
	t.Helper()
	if !s.Play(x, most) {
		t.Fatalf("it goes on for too long: %+v", s)
	}
	stopped(t, x)
}

func stopped(t testing.TB, x *machine.Machine) {
	t.Helper()
	for h := range x.Harts() {
		if e := x.Stopped(h); e != api.ErrHalt || x.Open(h) != 0 {
			t.Fatalf("hart %d: error %d at %d, %d open", h, int(e), x.PC(h), x.Open(h))
		}
	}
}

// told are the words that events told, and whether memory was full behind them: that is told once, and nothing behind it.
func told(t testing.TB, x *machine.Machine) ([]uint64, bool) {
	t.Helper()
	var l []uint64
	for n, e := range x.Events() {
		switch {
		case e.Code == 1 && e.B == 0:
			l = append(l, e.A)
		case e == machine.Event{Hart: e.Hart, Code: 2} && n == len(x.Events())-1:
			return l, true
		default:
			t.Fatalf("event %d of %d: %+v", n, len(x.Events()), e)
		}
	}
	return l, false
}

// ended holds globals against what they are to be when all harts have stopped.
func (h *house) ended(t testing.TB, x *machine.Machine, full bool) {
	t.Helper()
	out, lock := read(t, x, h.global(image.GFull)), read(t, x, h.global(image.GLock))
	if (out != 0) != full || lock != 0 {
		t.Fatalf("GFull is %d, GLock %d", out, lock)
	}
	if live := read(t, x, h.global(image.GLive)); !full && live != 0 {
		t.Fatalf("GLive is %d", live)
	}
}

// blocksFree counts the free blocks.
func (h *house) blocksFree(t testing.TB, x *machine.Machine) int {
	t.Helper()
	n := 0
	for at := read(t, x, h.global(image.GTop)) & (1<<32 - 1); at != 0; n++ {
		if at > uint64(h.c.Blocks) || n > h.c.Blocks {
			t.Fatalf("the %d-th free block is %d", n, at)
		}
		at = read(t, x, word(image.Block(h.l, int(at-1)), image.BNext))
	}
	return n
}

// A text is the tests' own code, while it is written.
type text struct {
	*items.Writer
	labels int
}

func begun(name string) *text { return &text{Writer: items.Begin(name)} }

// label tells one that no other place has.
func (w *text) label(part string) string {
	w.labels++
	return part + " " + strconv.Itoa(w.labels)
}

func (w *text) call(routine string) { w.Jump(items.From, routine) }

func (w *text) goes(label string) { w.Jump(items.Zero, label) }

// begins lays what lets the actor whose record is in 10 begin at a label, so that whoever sees that sees all that stands ahead.
func (w *text) begins(label string) {
	w.Addr(5, label)
	w.Store(5, 10, image.WPC)
	w.Fence()
	w.Const(5, 1)
	w.Store(5, 10, image.WState)
}

// makes lays what makes an actor that begins at a label.
func (w *text) makes(label string) {
	w.call("new")
	w.begins(label)
}

// leaves lays the end of main: the 1 goes that GLive had at first.
func (w *text) leaves() {
	w.Const(5, ^uint64(0))
	w.Number(api.OpAddi, 6, items.Globals, items.Offset(image.GLive))
	w.Inst(api.Inst{Op: api.OpAmoaddd, Rs1: 6, Rs2: 5})
	w.goes("sched")
}

// tells lays what tells a word.
func (w *text) tells(v uint64) {
	w.Const(10, v)
	w.call("tell")
}

// sends lays what sends a word to another one.
func (w *text) sends(to, v uint64) {
	w.Const(10, to)
	w.Const(11, v)
	w.call("send")
}

// rests lays what lets another actor run, and goes on at a label when it is this one's turn again.
func (w *text) rests(label string) {
	w.Addr(5, label)
	w.Store(5, items.Record, image.WPC)
	w.goes("sched.skip")
}

// waits lays what waits till a block is in the queue: its address is in 10 then, and in 25.
func (w *text) waits() {
	again, there := w.label("again"), w.label("there")
	w.Label(again)
	w.Copy(10, items.Record)
	w.call("pop")
	w.Branch(api.OpBne, 10, 0, there)
	w.rests(again)
	w.Label(there)
	w.Copy(25, 10)
}

// lays lays a tuple of what registers have into the heap, and its word into a register; there is room for it.
func (w *text) lays(rd int, parts ...int) {
	w.Load(6, items.Record, image.WAlloc)
	w.Const(7, uint64(len(parts)))
	w.Store(7, 6, 0)
	for k, r := range parts {
		w.Store(r, 6, k+1)
	}
	w.Number(api.OpAddi, rd, 6, tuple)
	w.Number(api.OpAddi, 6, 6, items.Offset(len(parts)+1))
	w.Store(6, items.Record, image.WAlloc)
}

// counts lays what makes a slot one more, and that is in 5.
func (w *text) counts(slot int) {
	w.Load(5, items.Record, image.WSlots+slot)
	w.Number(api.OpAddi, 5, 5, 1)
	w.Store(5, items.Record, image.WSlots+slot)
}

// mainOf is a main that makes actors, which begin at these labels, and leaves.
func mainOf(labels ...string) []api.Item {
	w := begun("main")
	for _, l := range labels {
		w.makes(l)
	}
	w.leaves()
	return w.Items()
}

// repeated is a label, so many times.
func repeated(label string, n int) []string {
	l := make([]string, n)
	for k := range l {
		l[k] = label
	}
	return l
}

// numbers are those from 0 on, so many.
func numbers(n int) []int {
	l := make([]int, n)
	for k := range l {
		l[k] = k
	}
	return l
}

// conf is a config of so many harts and actors.
func conf(harts, actors int) api.Conf {
	return api.Conf{Harts: harts, Actors: actors, Blocks: 4, Words: 16, Budget: 3}
}
