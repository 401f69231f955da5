package sched_test

import (
	"slices"
	"testing"

	"postbag/api"
	"postbag/bench"
	"postbag/image"
	"postbag/items"
	"postbag/machine"
	"postbag/order"
)

// keeps tells whether a routine leaves a register as it is; of register 1 it is where the routine comes back to.
func keeps(n int) bool {
	return n <= 4 || n == 8 || n == 9 || n >= 18 && n <= 22 || n >= 25 && n <= 27
}

// called lets hart 0 call a routine, alone, in a machine that begins with the house's memory, with what some registers are to have, and tells what all have when it is back, and the machine.
func (h *house) called(t testing.TB, routine string, x map[int]uint64) ([32]uint64, *machine.Machine) {
	t.Helper()
	r := bench.Row(len(routine))
	var was [32]uint64
	for n := 2; n < 32; n++ {
		was[n] = r.Word()
	}
	for n, v := range map[int]uint64{8: image.Actor(h.l, 0), 9: h.l.Globals, 18: 0, 19: uint64(h.c.Actors)} {
		was[n] = v
	}
	for n, v := range x {
		was[n] = v
	}
	y := h.given(t, routine, was)
	if !bench.Through(y, 0, h.at["from."+routine], 100000) {
		t.Fatalf("%s: it is at %d, error %d", routine, y.PC(0), int(y.Stopped(0)))
	}
	was[items.From] = h.at["from."+routine]
	var now [32]uint64
	for n := range now {
		now[n], _ = y.X(0, n)
		if keeps(n) && now[n] != was[n] {
			t.Fatalf("%s: register %d has %x, not %x any more", routine, n, now[n], was[n])
		}
	}
	return now, y
}

// given lets hart 0 load its registers from the words behind the code, and come to where the routine is called.
func (h *house) given(t testing.TB, routine string, x [32]uint64) *machine.Machine {
	t.Helper()
	m := h.m.Clone()
	at := h.l.Globals - 8*32
	for n, v := range x {
		if e := m.Store(word(at, n), 8, v); e != api.OK {
			t.Fatal(int(e))
		}
	}
	y, e := machine.New(m, []uint64{h.at["to."+routine]})
	if e != api.OK || !bench.Through(y, 0, h.at["at."+routine], 1000) {
		t.Fatalf("%s can't be called: %d", routine, int(e))
	}
	return y
}

// calls is code that calls routines, each from a place of its own.
func calls(c api.Conf) []api.Item {
	l, _ := image.Lay(c, codeWords, slots)
	w := begun("main")
	for _, routine := range []string{"new", "send", "tell", "ensure"} {
		w.Label("to." + routine)
		w.Const(31, l.Globals-8*32)
		for n := 2; n < 32; n++ {
			w.Load(n, 31, n)
		}
		w.Label("at." + routine)
		w.call(routine)
		w.Label("from." + routine)
		w.Inst(api.Inst{Op: api.OpEbreak})
	}
	return w.Items()
}

// alone tells a house whose routines are called one by one.
func alone(t testing.TB, c api.Conf) *house {
	t.Helper()
	return built(t, c, calls(c))
}

// keep lets the house's memory be that of a machine on which nothing is open.
func (h *house) keep(x *machine.Machine) {
	b, _ := x.Bytes(0, h.m.Len())
	h.m.Put(0, b)
}

// litter lets any numbers stand in all records.
func (h *house) litter(t testing.TB, r *bench.Row) {
	t.Helper()
	for at := h.l.Actors; at < h.l.Blocks; at += 8 {
		h.set(t, at, r.Word())
	}
}

// isNew holds the record of a number against what new makes.
func (h *house) isNew(t testing.TB, x *machine.Machine, n int) {
	t.Helper()
	heap := h.field(n, image.WSlots+slots)
	limit := word(heap, h.c.Words)
	stub := h.field(n, image.WStub)
	for f, want := range map[int]uint64{
		image.WState: 0, image.WTail: stub, image.WHead: stub, image.WStub: 0, image.WSave: 0, image.WLast: 0,
		image.WHeap: heap, image.WAlloc: heap, image.WLimit: limit, image.WOther: limit,
	} {
		if v := read(t, x, h.field(n, f)); v != want {
			t.Fatalf("record %d: word %d is %d, not %d", n, f, v, want)
		}
	}
	if end := word(limit, h.c.Words); end != h.field(n+1, 0) {
		t.Fatalf("record %d: its spaces end at %d", n, end)
	}
}

// P24.1: new makes one record behind the other, whatever stood there; GNext and GLive are one more each time; nothing else is changed.
func TestNew(t *testing.T) {
	r := bench.Row(31)
	for range 20 {
		c := anyConf(&r)
		c.Actors, c.Harts, c.Words = 1+r.Next(9), 1, 8+r.Next(40)
		h := alone(t, c)
		h.litter(t, &r)
		for n := range c.Actors {
			was := h.m.Clone()
			x, y := h.called(t, "new", nil)
			if x[10] != image.Actor(h.l, n) || x[11] != actor(n) {
				t.Fatalf("%d, %d, not record %d", x[10], x[11], n)
			}
			h.isNew(t, y, n)
			if next, live := read(t, y, h.global(image.GNext)), read(t, y, h.global(image.GLive)); next != uint64(n+1) || live != uint64(n+2) {
				t.Fatalf("GNext %d, GLive %d", next, live)
			}
			for at := h.l.Globals; at < h.l.End; at += 8 {
				v, _ := was.Load(at, 8)
				if now := read(t, y, at); now != v && (at < h.field(n, 0) || at >= h.field(n, image.WSlots)) && at != h.global(image.GNext) && at != h.global(image.GLive) {
					t.Fatalf("at %d is %x, not %x any more", at, now, v)
				}
			}
			h.keep(y)
			h.set(t, h.field(n, image.WState), 7)
		}
	}
}

// P24.1: where there may be no more actors, new goes to full.
func TestNewFull(t *testing.T) {
	for _, actors := range []int{1, 2, 64} {
		w := begun("main")
		for range actors {
			w.call("new")
		}
		w.tells(integer(3))
		w.call("new")
		w.tells(integer(4))
		h := built(t, conf(2, actors), w.Items())
		x := h.started(t)
		played(t, x, bench.Script{Row: 4})
		if l, full := told(t, x); !slices.Equal(l, []uint64{12}) || !full {
			t.Errorf("%d actors: %d, %t", actors, l, full)
		}
		h.ended(t, x, true)
		for n := range actors {
			h.isNew(t, x, n)
		}
	}
}

// makers is code of a hart that makes so many records, notes them in the words behind the globals' own, and stops; it is begun at once, without boot.
func makers(c api.Conf, harts, each int) []api.Item {
	l, _ := image.Lay(c, codeWords, slots)
	w := begun("main")
	for n := range harts {
		w.Label("hart" + string(rune('0'+n)))
		w.Const(items.Globals, l.Globals)
		w.Const(27, l.Globals-8*uint64(2*each*(n+1)))
		for k := range each {
			w.call("new")
			w.Store(10, 27, 2*k)
			w.Store(11, 27, 2*k+1)
		}
		w.Inst(api.Inst{Op: api.OpEbreak})
	}
	return w.Items()
}

// P24.4: records that harts make at a time are unlike, and as new, whatever stood there; GNext and GLive count all of them, and GNext is looked at by nobody else.
func TestMadeTogether(t *testing.T) {
	r := bench.Row(32)
	mixed := 0
	for harts := 1; harts <= 4; harts++ {
		for _, s := range bench.Scripts(&r, 60) {
			each := 1 + r.Next(4)
			c := conf(harts, harts*each)
			h := built(t, c, makers(c, harts, each))
			h.litter(t, &r)
			var pcs []uint64
			for n := range harts {
				pcs = append(pcs, h.at["hart"+string(rune('0'+n))])
			}
			x, e := machine.New(h.m, pcs)
			if e != api.OK {
				t.Fatal(int(e))
			}
			played(t, x, s)
			var all []int
			for n := range harts {
				last := -1
				for k := range each {
					at := word(h.l.Globals-8*uint64(2*each*(n+1)), 2*k)
					record, w := read(t, x, at), read(t, x, at+8)
					number := int(w >> 2)
					if w&3 != pid || number >= c.Actors || record != image.Actor(h.l, number) || number <= last {
						t.Fatalf("hart %d made %x at %d behind %d", n, w, record, last)
					}
					if last >= 0 && number > last+1 {
						mixed++
					}
					last = number
					all = append(all, number)
					h.isNew(t, x, number)
				}
			}
			slices.Sort(all)
			if !slices.Equal(all, numbers(c.Actors)) {
				t.Fatalf("%d were made", all)
			}
			if next, live := read(t, x, h.global(image.GNext)), read(t, x, h.global(image.GLive)); next != uint64(c.Actors) || live != uint64(c.Actors+1) {
				t.Fatalf("GNext %d, GLive %d", next, live)
			}
			h.looked(t, x, c.Actors)
		}
	}
	if mixed < 50 {
		t.Errorf("%d times mixed", mixed)
	}
}

// looked tells it where GNext is not looked at just so many times, once for each number.
func (h *house) looked(t testing.TB, x *machine.Machine, times int) {
	t.Helper()
	var l []int
	for n := range x.Harts() {
		for _, op := range ops(x, n) {
			if !op.Fence && op.Addr < h.global(image.GNext)+8 && op.Addr+uint64(op.Size) > h.global(image.GNext) {
				l = append(l, int(op.Value))
			}
		}
	}
	slices.Sort(l)
	if !slices.Equal(l, numbers(times)) {
		t.Fatalf("GNext was looked at when it was %d", l)
	}
}

// P24.1, P24.4: actors that several harts make at a time, who make others: each runs once, on its hart, and there are as many as there may be. One more, and memory is full.
func TestFamily(t *testing.T) {
	r := bench.Row(33)
	for harts := 1; harts <= 4; harts++ {
		for _, s := range bench.Scripts(&r, 40) {
			first := 1 + r.Next(harts)
			actors := first * 7
			w := begun("a")
			for _, child := range []string{"b", "b"} {
				w.makes(child)
			}
			w.goes("tells")
			w.Label("b")
			for range 2 {
				w.makes("tells")
			}
			w.Label("tells")
			w.Number(api.OpSlli, 10, items.Actor, 2)
			w.call("tell")
			w.goes("stop")
			over := r.Next(3) == 0
			c := conf(harts, actors)
			if over {
				c.Actors--
			}
			h := built(t, c, mainOf(repeated("a", first)...), w.Items())
			x := h.started(t)
			h.watch(x).plays(t, s)
			l, full := told(t, x)
			if full != over || !over && len(l) != actors {
				t.Fatalf("%d of %d, %t", len(l), actors, full)
			}
			slices.Sort(l)
			if len(slices.Compact(l)) != len(l) {
				t.Fatalf("twice: %d", l)
			}
			for _, e := range x.Events() {
				if e.Code == 1 && int(e.A>>2)%harts != e.Hart {
					t.Fatalf("%+v of %d harts", e, harts)
				}
			}
			h.ended(t, x, full)
			if !over {
				h.looked(t, x, actors)
			}
		}
	}
}

// P24.4, by the rules of program order: all that new does stands ahead of what its hart does behind it, and whoever sees that there is a heap sees all ahead of it.
func TestNewByRules(t *testing.T) {
	w := begun("main")
	w.call("new")
	w.Store(11, 10, image.WSlots)
	w.Load(5, 10, image.WSlots+1)
	w.goes("sched.end")
	h := built(t, conf(1, 2), w.Items())
	x := h.started(t)
	played(t, x, bench.Script{Row: 6})
	l := ops(x, 0)
	heap := slices.IndexFunc(l, func(op api.Op) bool { return op.Store && op.Addr == h.field(0, image.WHeap) })
	first := slices.IndexFunc(l, func(op api.Op) bool { return op.Addr == h.field(0, image.WSlots) })
	if heap < 0 || first != len(l)-2 {
		t.Fatalf("%+v", l)
	}
	for i := range heap {
		if !l[i].Fence && order.Rule(l, i, heap) == 0 {
			t.Errorf("%+v may stand behind the heap", l[i])
		}
	}
	for i := range first {
		for j := first; j < len(l); j++ {
			// In order by way of what stands between them, too.
			if !l[i].Fence && order.Rule(l, i, j) == 0 && (i > heap || order.Rule(l, heap, j) == 0) {
				t.Errorf("%+v may stand behind %+v", l[i], l[j])
			}
		}
	}
}
