package run_test

import (
	"testing"

	"postbag/api"
	"postbag/bench"
	"postbag/items"
)

// P27.2: no rounds.
func TestFairNone(t *testing.T) {
	i := compiled(t, example, conf(2))
	for _, rounds := range []int{0, -1, least} {
		x := begun(t, i)
		x.Fair(rounds)
		told(t, i).wholly(x)
	}
}

// P27.2: rounds one by one: hart by hart what is open first performs, else its next instruction is issued; each counts as a choice.
func TestFairRounds(t *testing.T) {
	for harts := 1; harts <= 8; harts++ {
		i := compiled(t, example, conf(harts))
		x, p := begun(t, i), told(t, i)
		x.Fair(1)
		if x.Steps() != harts {
			t.Errorf("%d choices of %d harts", x.Steps(), harts)
		}
		p.fair(1)
		p.wholly(x)
		for range 400 {
			x.Fair(1)
			p.fair(1)
			p.held(x)
		}
		p.wholly(x)
	}
}

// P27.2: what is performed in a round is the first one that is open, though others could be.
func TestFairFirst(t *testing.T) {
	w := boots()
	c := conf(1)
	at := laid(t, c).Actors
	w.Const(5, at)
	w.Const(6, 7)
	for k := range 3 {
		w.Store(6, 5, k)
	}
	w.Fence()
	w.Load(7, 5, 8)
	w.ends()
	i := w.image(t, c)
	x, p := begun(t, i), told(t, i)
	for range 9 {
		x.Play([]int{0}, 1) // issues, and lets all be open
		p.play([]int{0}, 1)
	}
	if x.Machine().Open(0) < 4 {
		t.Fatalf("%d are open", x.Machine().Open(0))
	}
	for k := range 5 {
		before := x.Machine().Open(0)
		x.Fair(1)
		p.fair(1)
		p.wholly(x)
		last, n := x.Machine().Last()
		if k < 3 && (last.Addr != at+8*uint64(k) || n != k+1 || x.Machine().Open(0) >= before) {
			t.Errorf("round %d: %+v, %d", k, last, n)
		}
	}
}

// P27.2: a hart that has stopped is passed over, and counts for nothing; rounds in which nothing can be done come to an end.
func TestFairStopped(t *testing.T) {
	w := boots()
	w.Branch(api.OpBne, items.First, items.Zero, "others")
	w.Const(5, 40)
	w.Label("again")
	w.Number(api.OpAddi, 5, 5, -1)
	w.Branch(api.OpBne, 5, items.Zero, "again")
	w.tells(codeValue, 20, 0)
	w.Label("others")
	w.ends()
	i := w.image(t, conf(3))
	x, p := begun(t, i), told(t, i)
	x.Fair(20)
	p.fair(20)
	p.wholly(x)
	x.Fair(most)
	p.fair(200)
	p.wholly(x)
	if s := stateOf(x); s.outs != "5" || !s.done {
		t.Errorf("%+v", s)
	}
	before := stateOf(x)
	x.Fair(most)
	if stateOf(x) != before {
		t.Errorf("%+v, not %+v", stateOf(x), before)
	}
}

// P27.2, P27.3: thrown programs, in rounds that are mixed with scripts and choices of any number.
func TestFairMixed(t *testing.T) {
	r := bench.Row(4)
	ended, outs := 0, 0
	for range 80 {
		i := compiled(t, anyProgram(&r), anyConf(&r))
		x, p := begun(t, i), told(t, i)
		for range 60 {
			n := r.Next(200) - 20
			switch r.Next(4) {
			case 0:
				script := anyScript(&r, r.Next(100))
				if a, b := x.Play(script, n), p.play(script, n); a != b {
					t.Fatalf("%d choices, not %d", a, b)
				}
			case 1:
				x.Do(n)
				p.do(n)
			default:
				x.Fair(n)
				p.fair(n)
			}
			p.held(x)
		}
		p.wholly(x)
		if x.Done() {
			ended++
		}
		outs += len(x.Outs())
	}
	if ended < 15 || outs < 100 {
		t.Errorf("%d ended, %d values", ended, outs)
	}
}
