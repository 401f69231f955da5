package copying_test

import (
	"slices"
	"strconv"
	"testing"

	"postbag/api"
	"postbag/bench"
	"postbag/blocks"
	"postbag/copying"
	"postbag/image"
	"postbag/items"
	"postbag/machine"
	"postbag/mailbox"
	"postbag/memory"
)

// Registers that the tests' code keeps while it calls routines.
const (
	block = 25
	wrong = 26 // not 0 any more once something was not as it should be
)

// codeSize is how much code of the tests' own has room behind an image.
const codeSize = 1 << 15

// slots is how many each record has, heapWords how many words its heap: there is room for what all slots lead to.
const (
	slots     = 4
	heapWords = slots*blockWords + 2
)

// A ring is harts, each with a record of its own, that pass values on to one another, each to the next one; and what those values are, told plainly.
type ring struct {
	c     api.Conf
	l     api.Layout
	m     *memory.Memory
	r     *bench.Row
	texts [][]string // of each hart what its slots lead to
	sent  [][]string // of each hart what is on the way to it
	codes []*items.Writer
	steps int
}

func name(h int) string { return "hart." + strconv.Itoa(h) }

func (g *ring) record(h int) uint64 { return image.Actor(g.l, h) }

func (g *ring) slot(h, n int) uint64 { return word(g.record(h), image.WSlots+n) }

// rung tells a ring of so many harts, each of whose slots leads to any value that has room in a block.
func rung(t testing.TB, r *bench.Row, harts, blocks int) *ring {
	t.Helper()
	c := api.Conf{Harts: harts, Actors: harts, Blocks: blocks, Words: heapWords, Budget: 1}
	l, e := image.Lay(c, 16, slots)
	if e != api.OK {
		t.Fatal(int(e))
	}
	built, e := image.Build(c, l, make([]uint32, 16))
	if e != api.OK {
		t.Fatal(int(e))
	}
	b, _ := built.Bytes(0, built.Len())
	g := &ring{c: c, l: l, m: memory.New(len(b) + codeSize), r: r}
	g.m.Put(0, b)
	for h := range harts {
		g.begin(t, h)
	}
	return g
}

// begin gives a hart's record its first values.
func (g *ring) begin(t testing.TB, h int) {
	t.Helper()
	heap := heap{base: g.slot(h, slots)}
	v := in(t, g.m, 0)
	var texts []string
	for n := range slots {
		w := plain(g.r)
		if g.r.Next(4) > 0 {
			was := len(heap.words)
			w = heap.any(g.r, 1+g.r.Next(5), g.r.Next(3))
			heap.put(t, g.m, heap.base)
			if v.size(w, blockWords+1) > blockWords {
				heap.words, w = heap.words[:was], integer(n)
			}
		}
		store(t, g.m, g.slot(h, n), w)
		texts = append(texts, v.text(w, bound))
	}
	for n, at := range map[int]uint64{image.WHeap: heap.base, image.WAlloc: word(heap.base, len(heap.words)), image.WLimit: word(heap.base, heapWords), image.WOther: word(heap.base, heapWords)} {
		store(t, g.m, word(g.record(h), n), at)
	}
	stub := word(g.record(h), image.WStub)
	store(t, g.m, word(g.record(h), image.WTail), stub)
	store(t, g.m, word(g.record(h), image.WHead), stub)
	g.texts, g.sent = append(g.texts, texts), append(g.sent, nil)
	w := items.Begin(name(h))
	w.Const(items.Globals, g.l.Globals)
	w.Const(items.Record, g.record(h))
	g.codes = append(g.codes, w)
}

// label tells one that no other step has.
func (g *ring) label(part string) string {
	g.steps++
	return part + " " + strconv.Itoa(g.steps)
}

// lacks lays what notes that there was no room where some was.
func lacks(w *items.Writer) { w.Both(api.OpOr, wrong, wrong, 15) }

// pass lays what copies what a slot leads to out to a block, and pushes that to the next hart.
func (g *ring) pass(h, n int) {
	w, again, to := g.codes[h], g.label("alloc"), (h+1)%g.c.Harts
	w.Label(again)
	w.Jump(items.From, "alloc")
	w.Branch(api.OpBeq, items.First, items.Zero, again)
	w.Copy(block, items.First)
	w.Copy(11, block)
	w.Number(api.OpAddi, 12, block, items.Offset(image.BData))
	w.Number(api.OpAddi, 13, block, items.Offset(image.BlockWords))
	w.Load(items.First, items.Record, image.WSlots+n)
	w.Jump(items.From, copying.Name(copying.Out))
	lacks(w)
	w.Store(items.First, block, image.BRoot)
	w.Copy(items.Second, block)
	w.Const(items.First, g.record(to))
	w.Jump(items.From, "push")
	g.sent[to] = append(g.sent[to], g.texts[h][n])
}

// room lays what gives a copy the room that a heap has.
func room(w *items.Writer) {
	w.Load(12, items.Record, image.WAlloc)
	w.Load(13, items.Record, image.WLimit)
}

// twice lays a copy into the heap, and, if it had no room, once more behind a collection, which a slot that is written over is left out of.
func (g *ring) twice(h, n int, copied func(w *items.Writer)) {
	w, done := g.codes[h], g.label("done")
	copied(w)
	w.Branch(api.OpBeq, 15, items.Zero, done)
	w.Store(items.Zero, items.Record, image.WSlots+n)
	g.collect(h)
	copied(w)
	lacks(w)
	w.Label(done)
	w.Store(12, items.Record, image.WAlloc)
	w.Store(items.First, items.Record, image.WSlots+n)
}

// take lays what waits for a block, copies in what it has, and gives it back; or not.
func (g *ring) take(h, n int) {
	w, again := g.codes[h], g.label("pop")
	w.Label(again)
	w.Const(items.First, g.record(h))
	w.Jump(items.From, "pop")
	w.Branch(api.OpBeq, items.First, items.Zero, again)
	w.Copy(block, items.First)
	g.twice(h, n, func(w *items.Writer) {
		room(w)
		w.Copy(14, block)
		w.Load(items.First, block, image.BRoot)
		w.Jump(items.From, copying.Name(copying.In))
	})
	w.Copy(items.First, block)
	w.Jump(items.From, "free")
	g.texts[h][n] = g.sent[h][0]
	g.sent[h] = g.sent[h][1:]
}

// again lays what copies what a slot leads to within the heap.
func (g *ring) again(h, from, to int) {
	if from == to {
		return // a slot that is left out of a collection is none to copy from
	}
	g.twice(h, to, func(w *items.Writer) {
		room(w)
		w.Load(items.First, items.Record, image.WSlots+from)
		w.Jump(items.From, copying.Name(copying.Own))
	})
	g.texts[h][to] = g.texts[h][from]
}

func (g *ring) collect(h int) {
	w := g.codes[h]
	w.Const(items.First, slots)
	w.Jump(items.From, "collect")
}

// turns lays so many steps for each hart: it passes a value on, takes one, and copies and collects in between.
func (g *ring) turns(steps int) {
	for range steps {
		for h := range g.c.Harts {
			g.pass(h, g.r.Next(slots))
		}
		for h := range g.c.Harts {
			for range g.r.Next(3) {
				if g.r.Next(2) == 0 {
					g.collect(h)
				} else {
					g.again(h, g.r.Next(slots), g.r.Next(slots))
				}
			}
			g.take(h, g.r.Next(slots))
		}
	}
}

// started tells a machine on which each hart begins at its code, and where labels stand; each hart ends at its name and .end.
func (g *ring) started(t testing.TB) (*machine.Machine, map[string]uint64) {
	t.Helper()
	var parts [][]api.Item
	for h, w := range g.codes {
		w.Label(name(h) + ".end")
		w.Inst(api.Inst{Op: api.OpEbreak})
		parts = append(parts, w.Items())
	}
	parts = append(parts, routines(), mailbox.Push(), mailbox.Pop(), blocks.Alloc(g.l), blocks.Free(g.l))
	at, e := bench.Lay(g.m, g.l.End, parts...)
	if e != api.OK {
		t.Fatalf("the code has error %d", int(e))
	}
	var pcs []uint64
	for h := range g.codes {
		pcs = append(pcs, at[name(h)])
	}
	x, e := machine.New(g.m, pcs)
	if e != api.OK {
		t.Fatal(int(e))
	}
	return x, at
}

// ended holds what the slots lead to, when all harts have stopped, against what they are to lead to.
func (g *ring) ended(t testing.TB, x *machine.Machine) {
	t.Helper()
	b, _ := x.Bytes(0, g.m.Len())
	g.m.Put(0, b)
	for h := range g.c.Harts {
		if e := x.Stopped(h); e != api.ErrHalt || x.Open(h) != 0 {
			t.Fatalf("hart %d: error %d at %d, %d open", h, int(e), x.PC(h), x.Open(h))
		}
		if v, ok := x.X(h, wrong); v != 0 || !ok {
			t.Fatalf("hart %d found no room", h)
		}
		heap, alloc := load(t, g.m, word(g.record(h), image.WHeap)), load(t, g.m, word(g.record(h), image.WAlloc))
		for n, want := range g.texts[h] {
			w := load(t, g.m, g.slot(h, n))
			if s := in(t, g.m, 0).text(w, bound); s != want {
				t.Fatalf("hart %d, slot %d: %s, not %s", h, n, s, want)
			}
			for _, w := range in(t, g.m, 0).met(w) {
				if w < heap || w >= alloc {
					t.Fatalf("hart %d, slot %d leads to %x, which is not its own", h, n, w)
				}
			}
		}
	}
}

// P23.1 to P23.3: one to four harts, by any script: values go from heap to block to another heap, round and round, are copied and collected on the way, and are what they were.
func TestRing(t *testing.T) {
	r := bench.Row(31)
	for harts := 1; harts <= 4; harts++ {
		for _, s := range bench.Scripts(&r, 60) {
			steps := 1 + r.Next(3)
			g := rung(t, &r, harts, harts*steps+r.Next(3))
			g.turns(steps)
			x, _ := g.started(t)
			if !s.Play(x, 200000) {
				t.Fatalf("it goes on for too long: %+v", s)
			}
			g.ended(t, x)
		}
	}
}

// P23.1 to P23.3: wherever one hart waits for long in the midst of what it does, the other one goes on as far as it can.
func TestWaitsInTheMidst(t *testing.T) {
	r := bench.Row(32)
	ended := 0
	for k := 0; k < 1200; k += 1 + r.Next(12) {
		g := rung(t, &r, 2, 4)
		g.turns(2)
		x, at := g.started(t)
		end := at[name(0)+".end"]
		for range k {
			bench.Step(x, 0, end)
		}
		for range 3000 {
			bench.Step(x, 1, at[name(1)+".end"])
		}
		if x.PC(0) == end && x.Open(0) == 0 {
			ended++
		}
		for h := range 20 {
			for range 3000 {
				bench.Step(x, h%2, at[name(h%2)+".end"])
			}
		}
		for h := range 2 {
			x.Choose(machine.Choice{Hart: h, Kind: machine.Issue})
		}
		g.ended(t, x)
	}
	if ended > 20 {
		t.Errorf("%d times the hart waited at its end", ended)
	}
}

// P23.1, P23.2: on the machine, by any script, one hart alone comes to what it comes to one instruction behind the other.
func TestAlone(t *testing.T) {
	r := bench.Row(33)
	for _, s := range bench.Scripts(&r, 120) {
		h := heap{base: oldAt}
		w := h.any(&r, 1+r.Next(12), r.Next(3))
		m := littered(t, &r, memEnd)
		h.put(t, m, oldAt)
		kind := kinds()[r.Next(4)]
		if kind == copying.In {
			continue
		}
		x := [32]uint64{10: w, 11: newAt, 12: newAt, 13: word(newAt, 20+r.Next(80))}
		c := items.Begin("hart")
		for n, v := range x {
			if v != 0 {
				c.Const(n, v)
			}
		}
		c.Jump(items.From, copying.Name(kind))
		c.Inst(api.Inst{Op: api.OpEbreak})
		at, e := bench.Lay(m, newAt+1<<13, c.Items(), routines())
		if e != api.OK {
			t.Fatal(int(e))
		}
		y, _ := machine.New(m, []uint64{at["hart"]})
		if !s.Play(y, 200000) {
			t.Fatalf("it goes on for too long: %+v", s)
		}
		want := called(t, m, copying.Name(kind), x)
		for _, n := range []int{10, 11, 12, 13, 14, 15, 16} {
			if v, ok := y.X(0, n); v != want[n] || !ok {
				t.Fatalf("%s: register %d has %x, not %x", copying.Name(kind), n, v, want[n])
			}
		}
		a, _ := m.Bytes(oldAt, newAt)
		if b, _ := y.Bytes(oldAt, newAt); !slices.Equal(a, b) {
			t.Fatalf("%s: another memory", copying.Name(kind))
		}
	}
}
