package sched_test

import (
	"slices"
	"testing"

	"postbag/api"
	"postbag/bench"
	"postbag/image"
	"postbag/items"
	"postbag/machine"
	"postbag/order"
	"postbag/value"
)

// teller is an actor that tells its number and a count, so many times, and stops.
func teller(label string, times int) []api.Item {
	w := begun(label)
	w.counts(0)
	w.Number(api.OpSlli, 10, items.Actor, 12)
	w.Both(api.OpAdd, 10, 10, 5)
	w.Number(api.OpSlli, 10, 10, 2)
	w.call("tell")
	w.Load(5, items.Record, image.WSlots)
	w.Const(6, uint64(times))
	w.Branch(api.OpBgeu, 5, 6, "stop")
	w.Number(api.OpAndi, 6, 5, 1)
	w.Branch(api.OpBne, 6, items.Zero, label)
	w.rests(label)
	return w.Items()
}

// ever is an actor that becomes what it is, and never stops.
func ever(label string) []api.Item {
	w := begun(label)
	w.Number(api.OpAddi, items.Left, items.Left, -1)
	w.Branch(api.OpBne, items.Left, items.Zero, label)
	w.rests(label)
	return w.Items()
}

// A watch holds each event against who has GLock: it is told by the hart whose it is, and none when GFull is set but by the one that set it.
type watch struct {
	h      *house
	x      *machine.Machine
	owner  int // -1: nobody
	set    int // who set GFull; -1: nobody
	events int
	done   int
	values []string // that were told, as they stood in memory then
}

func (h *house) watch(x *machine.Machine) *watch { return &watch{h: h, x: x, owner: -1, set: -1} }

// saw looks at what a hart did last.
func (w *watch) saw(t testing.TB, hart int) {
	t.Helper()
	if op, n := w.x.Last(); n > w.done {
		w.done = n
		w.performed(t, hart, op)
	}
	l := w.x.Events()
	if len(l) == w.events {
		return
	}
	w.events = len(l)
	e := l[w.events-1]
	full := read(t, w.x, w.h.global(image.GFull)) != 0
	if e.Hart != w.owner || e.Hart != hart || full != (e.Code == 2) || full && w.set != e.Hart {
		t.Fatalf("GLock is hart %d's, GFull %t, and %+v", w.owner, full, e)
	}
	if e.Code == 1 {
		w.values = append(w.values, w.h.text(t, w.x, e.A))
	}
}

// text tells the value of a word.
func (h *house) text(t testing.TB, x *machine.Machine, w uint64) string {
	t.Helper()
	var l []uint64
	if w&3 == tuple {
		for at := h.l.Actors; at < h.l.End; at += 8 {
			l = append(l, read(t, x, at))
		}
	}
	v, e := value.Decode(w, l, h.l.Actors)
	if e != api.OK {
		t.Fatalf("%x is told: error %d", w, int(e))
	}
	return value.Text(v)
}

func (w *watch) performed(t testing.TB, hart int, op api.Op) {
	t.Helper()
	lock := op.Store && op.Addr == w.h.global(image.GLock)
	switch {
	case lock && op.Stored == 0:
		if w.owner != hart {
			t.Fatalf("GLock is hart %d's, hart %d lets it go", w.owner, hart)
		}
		w.owner = -1
	case lock && op.Load && op.Value == 0:
		if w.owner != -1 {
			t.Fatalf("GLock is hart %d's, and hart %d takes it", w.owner, hart)
		}
		w.owner = hart
	case op.Store && op.Addr == w.h.global(image.GFull):
		if w.owner != hart || op.Stored == 0 {
			t.Fatalf("GLock is hart %d's, hart %d sets GFull to %d", w.owner, hart, op.Stored)
		}
		if w.set < 0 {
			w.set = hart
		}
	}
}

// steps lets a hart do so much, if it can.
func (w *watch) steps(t testing.TB, hart, n int) {
	t.Helper()
	for range n {
		if !bench.Step(w.x, hart, nowhere) {
			return
		}
		w.saw(t, hart)
	}
}

// does does so many choices of a script, and tells whether there is one more.
func (w *watch) does(t testing.TB, s *bench.Script, n int) bool {
	t.Helper()
	for range n {
		c, ok := s.Do(w.x)
		if !ok {
			return false
		}
		w.saw(t, c.Hart)
	}
	return true
}

// plays plays a script to its end.
func (w *watch) plays(t testing.TB, s bench.Script) {
	t.Helper()
	if w.does(t, &s, most) {
		t.Fatalf("it goes on for too long: %+v", s)
	}
	stopped(t, w.x)
}

// P24.1: harts that tell at a time: all is told, each once, what one actor tells in its order; GLock is the hart's own.
func TestTellTogether(t *testing.T) {
	r := bench.Row(21)
	for harts := 1; harts <= 4; harts++ {
		mixed := 0
		for _, s := range bench.Scripts(&r, 50) {
			actors, times := 1+r.Next(2*harts), 1+r.Next(4)
			h := built(t, conf(harts, actors), mainOf(repeated("a", actors)...), teller("a", times))
			x := h.started(t)
			h.watch(x).plays(t, s)
			l, full := told(t, x)
			next := make([]int, actors)
			last := -1
			for _, v := range l {
				n, k := int(v>>14), int(v>>2)&(1<<12-1)
				if v&3 != 0 || n >= actors || k != next[n]+1 {
					t.Fatalf("%x is told behind %d of %d", v, next[:min(n, actors)], n)
				}
				next[n] = k
				if n < last {
					mixed++
				}
				last = n
			}
			if full || len(l) != actors*times {
				t.Fatalf("%d words of %d, %t", len(l), actors*times, full)
			}
			h.ended(t, x, false)
		}
		if harts > 1 && mixed < 30 {
			t.Errorf("%d harts: %d times mixed", harts, mixed)
		}
	}
}

// P24.1: what is told is the word that 10 has, whatever it is; the hart goes on behind it.
func TestTellWords(t *testing.T) {
	r := bench.Row(22)
	var l []uint64
	w := begun("main")
	for range 40 {
		v := r.Word()
		l = append(l, v)
		w.tells(v)
	}
	w.leaves()
	h := built(t, conf(1, 1), w.Items())
	x := h.started(t)
	played(t, x, bench.Script{Row: 3})
	if got, full := told(t, x); !slices.Equal(got, l) || full {
		t.Errorf("%x", got)
	}
}

// P24.1, P24.2: while GFull is set nothing is told: who would tell, or go to full, stops.
func TestBehindFull(t *testing.T) {
	for _, to := range []string{"tell", "full"} {
		w := begun("main")
		w.Const(5, 1)
		w.Store(5, items.Globals, image.GFull)
		w.Const(10, 20)
		w.call(to)
		w.goes("main")
		h := built(t, conf(2, 3), w.Items())
		x := h.started(t)
		played(t, x, bench.Script{Row: 5})
		if l := x.Events(); len(l) != 0 {
			t.Errorf("%s: %+v", to, l)
		}
		h.ended(t, x, true)
	}
}

// An end is a way in which memory comes to be full: an actor's code, of label a.
type end struct {
	name string
	c    api.Conf
	own  func() []api.Item
}

// ends are all of them.
func ends() []end {
	c := conf(1, 40)
	few := c
	few.Actors = 9
	return []end{
		{"records", few, func() []api.Item {
			w := begun("a")
			w.makes("a")
			w.rests("a")
			return w.Items()
		}},
		{"blocks", c, func() []api.Item {
			w := begun("a")
			w.sends(actor(0), integer(3))
			w.rests("a")
			return w.Items()
		}},
		{"a message", c, func() []api.Item {
			w := begun("a")
			sendsWide(w, 31)
			w.rests("a")
			return w.Items()
		}},
		{"a heap", c, func() []api.Item {
			w := begun("a")
			w.Const(10, 8*3)
			w.Const(11, 1)
			w.call("ensure")
			w.Load(26, items.Record, image.WSlots)
			w.lays(26, 26, 26)
			w.Store(26, items.Record, image.WSlots)
			w.rests("a")
			return w.Items()
		}},
		{"full itself", c, func() []api.Item {
			w := begun("a")
			w.goes("full")
			return w.Items()
		}},
	}
}

// sendsWide lays what sends actor 0 a tuple of so many words, 27 at least, with each tuple as often as it is met.
func sendsWide(w *text, words int) {
	w.Const(24, 4)
	w.lays(25, 24, 24, 24, 24)
	w.lays(26, 25, 25, 25, 25) // 25 words
	switch words - 25 {
	case 2:
		w.lays(26, 26)
	case 3, 4, 5:
		w.lays(26, slices.Concat([]int{26}, []int{24, 24, 24}[:words-27])...)
	case 6:
		w.lays(25, 24)
		w.lays(26, 26, 25, 24)
	}
	w.Const(10, actor(0))
	w.Copy(11, 26)
	w.call("send")
}

// P24.1, P24.2: memory comes to be full, on one hart or on several at a time, while others tell, and others go on for ever: that is told once, by all together, nothing behind it, and all harts stop.
func TestFull(t *testing.T) {
	r := bench.Row(23)
	for _, e := range ends() {
		for harts := 1; harts <= 4; harts++ {
			outs := 0
			for _, s := range bench.Scripts(&r, 24) {
				e.c.Harts = harts
				labels := repeated("a", 1+r.Next(harts))
				labels = append(labels, repeated("b", r.Next(3))...)
				labels = append(labels, repeated("c", r.Next(2))...)
				for k := range labels {
					j := r.Next(k + 1)
					labels[k], labels[j] = labels[j], labels[k]
				}
				h := built(t, e.c, mainOf(labels...), e.own(), teller("b", 1000), ever("c"))
				x := h.started(t)
				h.watch(x).plays(t, s)
				l, full := told(t, x)
				if !full {
					t.Fatalf("%s: memory is not full", e.name)
				}
				outs += len(l)
				h.ended(t, x, true)
			}
			if outs == 0 {
				t.Errorf("%s, %d harts: nothing else was told", e.name, harts)
			}
		}
	}
}

// P24.2: wherever one hart waits that goes to full, or tells, others tell, or go to full: one is told once, and nothing behind it.
func TestFullInTheMidst(t *testing.T) {
	r := bench.Row(24)
	for _, labels := range [][]string{{"f", "f"}, {"f", "b"}, {"b", "f"}, {"f", "f", "b"}, {"b", "b", "f"}} {
		both := [2]int{}
		for k := range 90 {
			f := begun("f")
			f.goes("full")
			h := built(t, conf(len(labels), 3), mainOf(labels...), f.Items(), teller("b", 2))
			x := h.started(t)
			first := r.Next(len(labels))
			all := func() bool { // all have begun
				return !slices.ContainsFunc(numbers(len(labels)), func(n int) bool { return x.PC(n) != h.at[labels[n]] })
			}
			for range 2000 {
				for n := range labels {
					bench.Step(x, n, h.at[labels[n]])
				}
				if all() {
					break
				}
			}
			if !all() {
				t.Fatal("not all have begun")
			}
			w := h.watch(x)
			w.steps(t, first, k)
			for range 300 {
				for n := range labels {
					if n != first {
						w.steps(t, n, 1+r.Next(20))
					}
				}
			}
			w.plays(t, bench.Script{Row: bench.Row(r.Word())})
			l, full := told(t, x)
			if !full {
				t.Fatalf("%q: memory is not full", labels)
			}
			both[min(len(l), 1)]++
			h.ended(t, x, true)
		}
		if slices.Contains(labels, "b") && min(both[0], both[1]) == 0 {
			t.Errorf("%q: nothing, or something, is told ahead of it: %d times", labels, both)
		}
	}
}

// P24.1: all harts stop when GFull is set, also those whose actors go on for ever, and those that have none.
func TestStops(t *testing.T) {
	r := bench.Row(25)
	for harts := 1; harts <= 4; harts++ {
		for _, s := range bench.Scripts(&r, 20) {
			h := built(t, conf(harts, 9), mainOf(repeated("c", r.Next(10))...), ever("c"))
			h.set(t, h.global(image.GFull), 1)
			x := h.started(t)
			played(t, x, s)
			if l := x.Events(); len(l) > 0 {
				t.Fatalf("%+v", l)
			}
		}
	}
}

// P24.1, by the rules of program order: what is asked when GLock is the hart's own stands behind its taking, and its going behind all that was done.
func TestLockByRules(t *testing.T) {
	for _, main := range []string{"tell", "full"} {
		w := begun("main")
		w.Store(items.Globals, items.Globals, image.Globals-1)
		w.call(main)
		w.goes("sched.end")
		h := built(t, conf(1, 1), w.Items())
		x := h.started(t)
		played(t, x, bench.Script{Row: 3})
		l := ops(x, 0)
		var lock []int
		for k, op := range l {
			if op.Addr == h.global(image.GLock) && op.Store {
				lock = append(lock, k)
			}
		}
		if len(lock) != 2 || l[lock[0]].Stored == 0 || l[lock[1]].Stored != 0 {
			t.Fatalf("%s: %+v", main, l)
		}
		for j := lock[0] + 1; j < len(l); j++ {
			if order.Rule(l, lock[0], j) == 0 {
				t.Errorf("%s: %+v may stand ahead of the lock", main, l[j])
			}
		}
		for i := range lock[1] {
			if order.Rule(l, i, lock[1]) == 0 {
				t.Errorf("%s: %+v may stand behind the lock", main, l[i])
			}
		}
	}
}

// round lets a hart perform its first open operation, or, if there is none, issue its next instruction.
func round(x *machine.Machine, h int) {
	c := machine.Choice{Hart: h, Kind: machine.Issue}
	if x.Open(h) > 0 {
		c.Kind = machine.Perform
	}
	x.Choose(c)
}

// P24.1: no hart that tells over and over keeps others from telling, where all harts go on in each round.
func TestAllTell(t *testing.T) {
	for harts := 2; harts <= 8; harts++ {
		h := built(t, conf(harts, harts), mainOf(repeated("a", harts)...), teller("a", 4000))
		x := h.started(t)
		for range 20000 {
			for n := range harts {
				round(x, n)
			}
		}
		count := map[int]int{}
		for _, e := range x.Events() {
			count[e.Hart]++
		}
		for n := range harts {
			if count[n] < 10 {
				t.Errorf("of %d harts hart %d told %d times of %d", harts, n, count[n], len(x.Events()))
			}
		}
	}
}
