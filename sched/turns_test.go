package sched_test

import (
	"slices"
	"testing"

	"postbag/api"
	"postbag/bench"
	"postbag/image"
	"postbag/items"
	"postbag/machine"
	"postbag/order"
)

// becomer is an actor that becomes what it is, so many times in all, and then stops; a slot counts. It keeps its registers as a body does: 21 is one less each time, and where that is 0 another one's turn comes.
func becomer(label string, times int) []api.Item {
	w := begun(label)
	w.counts(0)
	w.Const(6, uint64(times))
	w.Branch(api.OpBgeu, 5, 6, "stop")
	w.Number(api.OpAddi, items.Left, items.Left, -1)
	w.Branch(api.OpBne, items.Left, items.Zero, label)
	w.rests(label)
	return w.Items()
}

// A turn is what a hart had when it came to an actor's code.
type turn struct{ actor, left, rounds int }

// turns plays a script, and tells of each hart each time that it came to a label, holding the registers against what they are to have.
func (h *house) turns(t testing.TB, x *machine.Machine, s bench.Script, label string) [][]turn {
	t.Helper()
	l := make([][]turn, x.Harts())
	for range most {
		var pcs [api.MaxHarts]uint64
		for n := range x.Harts() {
			pcs[n] = x.PC(n)
		}
		c, ok := s.Do(x)
		if !ok {
			stopped(t, x)
			return l
		}
		if c.Kind != machine.Issue || pcs[c.Hart] != h.at[label] {
			continue
		}
		var v [32]uint64
		for _, n := range []int{8, 9, 18, 19, 20, 21, 22} {
			v[n], ok = x.X(c.Hart, n)
			if !ok {
				t.Fatalf("register %d is missing", n)
			}
		}
		if v[8] != image.Actor(h.l, int(v[20])) || v[9] != h.l.Globals || v[18] != uint64(c.Hart) || v[19] != uint64(h.c.Actors) || v[20]%uint64(h.c.Harts) != uint64(c.Hart) || v[20] >= v[19] {
			t.Fatalf("hart %d has %d", c.Hart, v)
		}
		l[c.Hart] = append(l[c.Hart], turn{int(v[20]), int(v[21]), int(v[22])})
	}
	t.Fatal("it goes on for too long")
	return nil
}

// P24.1: actors' turns come in the order of their numbers, round by round, on the hart of their number; 21 is Budget at first, and 22 how often the hart went round. More actors than harts, and fewer; actors that become more often than Budget, as often, and less often.
func TestTurns(t *testing.T) {
	r := bench.Row(11)
	for harts := 1; harts <= 4; harts++ {
		for _, s := range bench.Scripts(&r, 40) {
			c := conf(harts, 1+r.Next(10))
			c.Budget = 1 + r.Next(5)
			actors, times := r.Next(c.Actors+1), 1+r.Next(12)
			h := built(t, c, mainOf(repeated("a", actors)...), becomer("a", times))
			x := h.started(t)
			for n, l := range h.turns(t, x, s, "a") {
				h.fair(t, n, actors, times, l)
			}
			for n := range actors {
				if count, state := read(t, x, h.field(n, image.WSlots)), read(t, x, h.field(n, image.WState)); int(count) != times || state != 3 {
					t.Fatalf("actor %d began %d times, its state is %d", n, count, state)
				}
			}
			h.ended(t, x, false)
		}
	}
}

// fair holds the turns of a hart against those that they are to be: actor by actor Budget times, round by round.
func (h *house) fair(t testing.TB, hart, actors, times int, l []turn) {
	t.Helper()
	left := map[int]int{}
	for n := hart; n < actors; n += h.c.Harts {
		left[n] = times
	}
	for at, last := 0, -1; at < len(l); {
		rounds := l[at].rounds
		if rounds <= last {
			t.Fatalf("hart %d: %+v behind round %d", hart, l[at], last)
		}
		last = rounds
		was := -1
		for at < len(l) && l[at].rounds == rounds {
			n := l[at].actor
			// Of those that live none is left out, but those that main had not made by then.
			for k, of := range left {
				if k > was && k < n && of > 0 && of < times {
					t.Fatalf("hart %d, round %d: the turn of %d did not come", hart, rounds, k)
				}
			}
			if n <= was || left[n] == 0 {
				t.Fatalf("hart %d, round %d: %d behind %d", hart, rounds, n, was)
			}
			was = n
			for k := range min(h.c.Budget, left[n]) {
				if at == len(l) || l[at] != (turn{n, h.c.Budget - k, rounds}) {
					t.Fatalf("hart %d: %+v is not the %d-th turn of %d", hart, l[at:min(at+1, len(l))], k, n)
				}
				at++
			}
			left[n] -= min(h.c.Budget, left[n])
		}
	}
	for n, of := range left {
		if of > 0 {
			t.Fatalf("hart %d: %d is left with %d", hart, n, of)
		}
	}
}

// P24.1: no turn comes to a record whose WState is another one than 1.
func TestStates(t *testing.T) {
	for _, state := range []uint64{0, 1, 2, 3, 4, 1 << 32, 1<<32 + 1, 1<<64 - 1} {
		h := built(t, conf(1, 3), mainOf("a"), becomer("a", 1), becomer("b", 1))
		h.set(t, h.field(2, image.WState), state)
		h.set(t, h.field(2, image.WPC), h.at["b"])
		if state == 1 {
			h.set(t, h.global(image.GLive), 2)
		}
		x := h.started(t)
		if l := h.turns(t, x, bench.Script{Row: 7}, "b"); len(l[0]) > 0 != (state == 1) {
			t.Errorf("state %d: %d turns", state, l[0])
		}
	}
}

// P24.1: a hart without an actor of its own goes round till there is no actor any more; and one whose actor does not run goes round, too.
func TestGoesRound(t *testing.T) {
	h := built(t, conf(2, 1), mainOf("a"), becomer("a", 40))
	x := h.started(t)
	played(t, x, bench.Script{Row: 8})
	if v, _ := x.X(1, items.Rounds); v < 20 {
		t.Errorf("it went round %d times", v)
	}
}

// stored is an actor whose code stores numbers into a record that it makes, so many ahead of its state; the one that begins there looks at them.
func stored(k int) []api.Item {
	w := begun("a")
	w.call("new")
	for n := range k {
		w.Const(5, uint64(100+n))
		w.Store(5, 10, image.WSlots+n)
	}
	w.begins("b")
	w.goes("stop")
	w.Label("b")
	for n := range k {
		w.Load(5, items.Record, image.WSlots+n)
		w.Const(6, uint64(100+n))
		w.Branch(api.OpBne, 5, 6, "wrong")
	}
	w.goes("stop")
	w.Label("wrong")
	w.tells(0)
	w.goes("stop")
	return w.Items()
}

// P24.1: all that was stored ahead of that state is seen by the actor whose turn comes, on whatever hart.
func TestSeen(t *testing.T) {
	r := bench.Row(12)
	for harts := 2; harts <= 4; harts++ {
		for _, s := range bench.Scripts(&r, 60) {
			h := built(t, conf(harts, 2*harts+1), mainOf(repeated("a", harts)...), stored(slots))
			x := h.started(t)
			played(t, x, s)
			if l, full := told(t, x); len(l) > 0 || full {
				t.Fatalf("%d is told, %t", l, full)
			}
			h.ended(t, x, false)
		}
	}
}

// P24.1, by the rules of program order: what is read when a turn comes stands behind what WState was read by.
func TestSeenByRules(t *testing.T) {
	w := begun("a")
	w.Load(5, items.Record, image.WSlots)
	w.Load(6, items.Record, image.WHeap)
	w.goes("stop")
	h := built(t, conf(1, 2), mainOf("a"), w.Items())
	x := h.started(t)
	played(t, x, bench.Script{Row: 3})
	l := ops(x, 0)
	state := slices.IndexFunc(l, func(op api.Op) bool { return op.Load && op.Addr == h.field(0, image.WState) && op.Value == 1 })
	if state < 0 {
		t.Fatal("the turn did not come")
	}
	behind := 0
	for j := state + 1; j < len(l); j++ {
		if op := l[j]; op.Addr == h.field(0, image.WPC) || op.Addr == h.field(0, image.WSlots) || op.Addr == h.field(0, image.WHeap) {
			behind++
			if order.Rule(l, state, j) == 0 {
				t.Errorf("%+v may stand ahead of %+v", op, l[state])
			}
		}
	}
	if behind != 3 {
		t.Errorf("%d loads", behind)
	}
}

// ops are a hart's operations, in program order.
func ops(x *machine.Machine, h int) []api.Op {
	l, _ := x.Trace()
	return l[h]
}

// P24.1: stop: WState is 3, GLive one less, and the turn of the actor behind comes.
func TestStop(t *testing.T) {
	h := built(t, conf(2, 6), mainOf("a", "b", "a", "a", "a", "b"), becomer("a", 1), becomer("b", 6))
	x := h.started(t)
	live := uint64(1)
	s := bench.Script{Row: 9, Style: bench.Oldest}
	for range most {
		pc := [2]uint64{x.PC(0), x.PC(1)}
		c, ok := s.Do(x)
		if !ok {
			break
		}
		if c.Kind == machine.Issue && pc[c.Hart] == h.at["stop"] {
			n, _ := x.X(c.Hart, items.Actor)
			if v := read(t, x, h.field(int(n), image.WState)); v != 1 {
				t.Fatalf("actor %d stops in state %d", n, v)
			}
		}
		if op, _ := x.Last(); c.Kind == machine.Perform && op.Store && op.Load && op.Addr == h.global(image.GLive) {
			if now := read(t, x, op.Addr); now != live+1 && now != live-1 || now > 7 {
				t.Fatalf("GLive was %d, is %d", live, now)
			} else {
				live = now
			}
		}
	}
	stopped(t, x)
	h.ended(t, x, false)
	for n := range 6 {
		if v := read(t, x, h.field(n, image.WState)); v != 3 {
			t.Errorf("actor %d is in state %d", n, v)
		}
	}
	if v := read(t, x, h.global(image.GNext)); v != 6 {
		t.Errorf("GNext is %d", v)
	}
}

// P24.1, by the rules of program order: an actor is counted no more when all is done that it did.
func TestStopByRules(t *testing.T) {
	w := begun("a")
	w.Store(items.Record, items.Record, image.WSlots)
	w.Load(5, items.Record, image.WSlots+1)
	w.goes("stop")
	h := built(t, conf(1, 2), mainOf("a"), w.Items())
	x := h.started(t)
	played(t, x, bench.Script{Row: 3})
	l := ops(x, 0)
	last := -1
	for k, op := range l {
		if op.Addr == h.global(image.GLive) && op.Load && op.Store {
			last = k
		}
	}
	for i := range last {
		if op := l[i]; !op.Fence && order.Rule(l, i, last) == 0 {
			t.Errorf("%+v may stand behind", op)
		}
	}
	if l[last].Value != 1 {
		t.Errorf("%+v", l[last])
	}
}

// P24.1: what stops is there no more, and harts go on: sched.skip comes to the actor behind the present one.
func TestSkip(t *testing.T) {
	w := begun("a")
	w.tells(integer(1))
	w.Const(5, 3)
	w.Store(5, items.Record, image.WState)
	w.Const(5, ^uint64(0))
	w.Number(api.OpAddi, 6, items.Globals, items.Offset(image.GLive))
	w.Inst(api.Inst{Op: api.OpAmoaddd, Rs1: 6, Rs2: 5})
	w.goes("sched.skip")
	b := begun("b")
	b.tells(integer(2))
	b.goes("stop")
	h := built(t, conf(1, 5), mainOf("a", "b", "a", "b", "b"), w.Items(), b.Items())
	x := h.started(t)
	played(t, x, bench.Script{Row: 4})
	if l, _ := told(t, x); !slices.Equal(l, []uint64{4, 8, 4, 8, 8}) {
		t.Errorf("%d", l)
	}
}
