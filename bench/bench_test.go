package bench_test

import (
	"testing"

	"postbag/api"
	"postbag/bench"
	"postbag/items"
	"postbag/machine"
	"postbag/memory"
)

// laid tells a machine of two harts, each of which stores twice, crosswise, and takes a number by lr and sc.
func laid(t *testing.T) *machine.Machine {
	t.Helper()
	w := items.Begin("at")
	w.Const(5, 1024)
	w.Store(5, 5, 0)
	w.Store(5, 5, 1)
	w.Number(api.OpAddi, 5, 5, items.Offset(2))
	w.Label("again")
	w.Inst(api.Inst{Op: api.OpLrd, Rd: 6, Rs1: 5})
	w.Number(api.OpAddi, 6, 6, 1)
	w.Inst(api.Inst{Op: api.OpScd, Rd: 7, Rs1: 5, Rs2: 6})
	w.Branch(api.OpBne, 7, 0, "again")
	w.Inst(api.Inst{Op: api.OpEbreak})
	m := memory.New(2048)
	at, e := bench.Lay(m, 64, w.Items())
	if e != api.OK || at["at"] != 64 || at["again"] != 80 {
		t.Fatalf("error %d, labels %v", int(e), at)
	}
	x, e := machine.New(m, []uint64{at["at"], at["at"]})
	if e != api.OK {
		t.Fatal(int(e))
	}
	return x
}

// A script comes to the end, whatever its style, and the same way again.
func TestScripts(t *testing.T) {
	r := bench.Row(1)
	failed, away := 0, 0
	for _, s := range bench.Scripts(&r, 100) {
		x, y := laid(t), laid(t)
		again, last, row := s, -1, 0
		for {
			c, ok := s.Do(x)
			if d, still := again.Do(y); d != c || still != ok {
				t.Fatalf("%+v, and then %+v", c, d)
			}
			if !ok {
				break
			}
			if c.Kind == machine.Fail {
				failed++
			}
			if row++; c.Hart != last {
				last, row = c.Hart, 0
			}
			if row == 12 {
				away++
			}
		}
		b, _ := x.Bytes(1040, 1)
		if b[0] != 2 || x.Open(0)+x.Open(1) != 0 || len(x.Choices()) != 0 {
			t.Fatalf("%d at the end", b[0])
		}
	}
	if failed < 50 || away < 10 {
		t.Errorf("%d scs failed, %d times one hart waited", failed, away)
	}
}

// Of two stores by one hart mostly the one that a style names performs first.
func TestStyles(t *testing.T) {
	first := [bench.Styles][2]int{}
	for style := range bench.Styles {
		for n := range 200 {
			x := laid(t)
			for range 3 {
				x.Choose(machine.Choice{Kind: machine.Issue})
			}
			s := bench.Script{Row: bench.Row(n), Style: style}
			for open := x.Open(0); ; open = x.Open(0) {
				if c, _ := s.Do(x); c.Kind == machine.Perform && c.Hart == 0 && open == 2 {
					first[style][c.N]++
					break
				} else if x.Open(0) > 2 {
					break
				}
			}
		}
	}
	if f := first[bench.Newest]; f[1] < 4*f[0] || f[1] < 20 {
		t.Errorf("the newest: %d", f)
	}
	if f := first[bench.Oldest]; f[0] < 4*f[1] || f[0] < 20 {
		t.Errorf("the oldest: %d", f)
	}
	if f := first[bench.Any]; f[0] < 10 || f[1] < 10 {
		t.Errorf("any: %d", f)
	}
	if l, a := first[bench.Late], first[bench.Any]; l[0]+l[1] >= a[0]+a[1] {
		t.Errorf("late: %d", l)
	}
}

// A hart alone goes on till it is where it was to come, and no further.
func TestThrough(t *testing.T) {
	x := laid(t)
	if !bench.Through(x, 1, 80, 100) || x.PC(1) != 80 || x.Open(1) != 0 || x.PC(0) != 64 {
		t.Errorf("at %d and %d, %d open", x.PC(0), x.PC(1), x.Open(1))
	}
	if bench.Step(x, 1, 80) {
		t.Error("and it goes on")
	}
	if b, _ := x.Bytes(1024, 2); b[1] != 4 {
		t.Errorf("it stored %d", b)
	}
	if bench.Through(x, 0, 80, 3) {
		t.Error("3 choices are enough")
	}
	if bench.Through(x, 0, 4, 100) || x.Stopped(0) != api.ErrHalt {
		t.Error("it came to where it does not come")
	}
}

// What can't be laid has an error, and no labels.
func TestLayWrong(t *testing.T) {
	m := memory.New(8)
	w := items.Begin("a")
	w.Jump(0, "b")
	if at, e := bench.Lay(m, 0, w.Items()); e != api.ErrLabel || len(at) != 0 {
		t.Error(int(e), at)
	}
	w.Label("b")
	if at, e := bench.Lay(m, 8, w.Items()); e != api.ErrOut || len(at) != 0 {
		t.Error(int(e), at)
	}
}
