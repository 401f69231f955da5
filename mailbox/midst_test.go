package mailbox_test

import (
	"slices"
	"testing"

	"postbag/api"
	"postbag/bench"
	"postbag/image"
	"postbag/items"
	"postbag/machine"
	"postbag/memory"
	"postbag/order"
)

// through lets a hart go on till it is at a place, and nothing of it is open.
func through(t testing.TB, x *machine.Machine, h int, end uint64) {
	t.Helper()
	if !bench.Through(x, h, end, 1000) {
		t.Fatalf("hart %d is at %d, not at %d; %d open", h, x.PC(h), end, x.Open(h))
	}
}

// A scene is hart 0, which pops at each of its labels, and others, each of which pushes one block.
type scene struct {
	x  *machine.Machine
	at map[string]uint64
	n  int // pops that hart 0 began
}

// steps tells the label of hart 0's n-th pop.
func steps(n int) string { return "pop " + string(rune('a'+n)) }

// acted tells a scene; so many blocks stand in the queue at first.
func acted(t testing.TB, first, harts int) *scene {
	t.Helper()
	r := bench.Row(21)
	m := begun(t, &r, 1)
	for n := range first {
		pushed(t, m, record(0), block(n))
	}
	w := items.Begin(name(0))
	for n := range 12 {
		w.Label(steps(n))
		call(w, "pop", record(0))
	}
	parts := [][]api.Item{stop(w)}
	for h := 1; h < harts; h++ {
		w := items.Begin(name(h))
		push(w, record(0), block(first+h-1), uint64(h), 0)
		w.Label(name(h) + ".end")
		parts = append(parts, stop(w))
	}
	at := lay(t, m, parts...)
	return &scene{x: started(t, m, at, harts), at: at}
}

// pop lets hart 0 do what is left of a pop, and tells what that told.
func (s *scene) pop(t testing.TB) uint64 {
	t.Helper()
	s.n++
	through(t, s.x, 0, s.at[steps(s.n)])
	v, _ := s.x.X(0, items.First)
	return v
}

// ended lets a hart that pushes come back.
func (s *scene) ended(t testing.TB, h int) {
	t.Helper()
	through(t, s.x, h, s.at[name(h)+".end"])
}

// swapped lets a hart go on till it has swapped, but has not linked its block.
func (s *scene) swapped(t testing.TB, h int) {
	t.Helper()
	for range 1000 {
		op, _ := s.x.Last()
		if op.Load && op.Store && op.Stored != word(record(0), image.WStub) && op.Stored == mine(s, h) {
			return
		}
		bench.Step(s.x, h, s.at[name(h)+".end"])
	}
	t.Fatalf("hart %d does not swap", h)
}

// mine is the block that a hart pushes.
func mine(s *scene, h int) uint64 {
	v, _ := s.x.X(h, items.Second)
	return v
}

// P21.3: of an empty queue, to which a block is pushed that is not linked yet, pop tells 0; and it is not lost, nor those behind it.
func TestUnlinkedFirst(t *testing.T) {
	s := acted(t, 0, 3)
	s.swapped(t, 1)
	if b := s.pop(t); b != 0 {
		t.Fatalf("%d was popped", b)
	}
	s.ended(t, 2)
	for range 2 {
		if b := s.pop(t); b != 0 {
			t.Fatalf("%d was popped", b)
		}
	}
	s.ended(t, 1)
	for _, want := range []uint64{block(0), block(1), 0} {
		if b := s.pop(t); b != want {
			t.Fatalf("%d was popped, not %d", b, want)
		}
	}
}

// P21.3: nor is one popped as long as the one behind it is to be linked to it.
func TestUnlinkedSecond(t *testing.T) {
	s := acted(t, 1, 3)
	s.swapped(t, 1)
	if b := s.pop(t); b != 0 {
		t.Fatalf("%d was popped", b)
	}
	s.ended(t, 2)
	if b := s.pop(t); b != 0 {
		t.Fatalf("%d was popped", b)
	}
	s.ended(t, 1)
	for _, want := range []uint64{block(0), block(1), block(2), 0, 0} {
		if b := s.pop(t); b != want {
			t.Fatalf("%d was popped, not %d", b, want)
		}
	}
}

// P21.3, P21.5: wherever in a pop the hart waits, and wherever one that pushes does then: nothing is lost, and all is in order.
func TestWherever(t *testing.T) {
	zeros := map[int]int{}
	for first := range 3 {
		began := acted(t, first, 2)
		for k := range 30 {
			for j := range 22 {
				s := &scene{x: began.x.Clone(), at: began.at}
				for range k {
					bench.Step(s.x, 0, s.at[steps(1)])
				}
				for range j {
					bench.Step(s.x, 1, s.at[name(1)+".end"])
				}
				var got []uint64
				nothing := 0
				for range 2 {
					if b := s.pop(t); b != 0 {
						got = append(got, b)
					} else {
						nothing++
					}
				}
				s.ended(t, 1)
				for range first + 2 {
					if b := s.pop(t); b != 0 {
						got = append(got, b)
					}
				}
				zeros[10*first+nothing]++
				for n := range first + 1 {
					if len(got) != first+1 || got[n] != block(n) {
						t.Fatalf("%d ahead, %d and %d choices: popped were %d", first, k, j, got)
					}
				}
			}
		}
	}
	for _, n := range []int{1, 2, 10, 11, 12, 20} {
		if zeros[n] == 0 {
			t.Errorf("never: %d", n)
		}
	}
}

// P21.2: wherever one that pushes waits, another one is not kept from it.
func TestPushesDontWait(t *testing.T) {
	for k := range 25 {
		s := acted(t, 0, 4)
		for range k {
			bench.Step(s.x, 1, s.at[name(1)+".end"])
		}
		s.ended(t, 2)
		s.ended(t, 3)
		was := []uint64{s.pop(t), s.pop(t), s.pop(t)}
		s.ended(t, 1)
		for range 3 {
			was = append(was, s.pop(t))
		}
		got := slices.DeleteFunc(was, func(b uint64) bool { return b == 0 })
		if want := swaps(s.x, record(0)); len(got) != 3 || !slices.Equal(got, want) {
			t.Fatalf("%d choices: popped were %d, pushed %d", k, got, want)
		}
	}
}

// traced tells what one hart does that calls a routine between a store, a load and again a store, a load, of words that the routine knows nothing of.
func traced(t testing.TB, m *memory.Memory, routine string, record, block uint64) (ops []api.Op, from, to int) {
	t.Helper()
	const aside = logs + 64
	around := func(w *items.Writer) {
		w.Const(20, aside)
		w.Const(21, block)
		w.Store(20, 20, 0)
		w.Load(22, 20, 1)
		w.Store(20, 21, image.BRoot)
		w.Load(22, 21, image.BData)
	}
	w := items.Begin(name(0))
	around(w)
	w.Const(items.Second, block)
	call(w, routine, record)
	around(w)
	at := lay(t, m, stop(w))
	x := started(t, m, at, 1)
	s := bench.Script{Row: 5, Style: bench.Oldest}
	if !s.Play(x, 10000) {
		t.Fatal("it goes on for too long")
	}
	l, _ := x.Trace()
	return l[0], 4, len(l[0]) - 4
}

// P21.4, by the rules of program order: all that a hart wrote and read ahead of push stands ahead of the swap, that ahead of the link; and what it does behind any routine stands behind all that the routine did.
func TestRules(t *testing.T) {
	r := bench.Row(23)
	for _, routine := range []string{"mailbox.init", "push", "pop"} {
		for blocks := range 4 {
			m := begun(t, &r, 1)
			for n := range blocks {
				pushed(t, m, record(0), block(n))
			}
			ops, from, to := traced(t, m, routine, record(0), block(9))
			for i := from; i < to; i++ {
				for j := to; j < len(ops); j++ {
					if !ops[i].Fence && order.Rule(ops, i, j) == 0 {
						t.Errorf("%s: %+v may stand behind %+v", routine, ops[i], ops[j])
					}
				}
			}
			for j := from; j < to; j++ {
				if swap := ops[j]; swap.Load && swap.Store {
					for i := range j {
						if !ops[i].Load && order.Rule(ops, i, j) == 0 || routine == "push" && order.Rule(ops, i, j) == 0 {
							t.Errorf("%s: %+v may stand behind the swap", routine, ops[i])
						}
					}
					if link := ops[j+1]; !link.Store || link.Load || link.Stored != swap.Stored || order.Rule(ops, j, j+1) == 0 {
						t.Errorf("%s: behind the swap stands %+v", routine, ops[j+1])
					}
				}
			}
		}
	}
}
