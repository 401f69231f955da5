package blocks_test

import (
	"slices"
	"testing"

	"postbag/api"
	"postbag/bench"
	"postbag/image"
	"postbag/items"
	"postbag/machine"
	"postbag/order"
)

// through lets a hart go on till it is at a place, and nothing of it is open.
func through(t testing.TB, x *machine.Machine, h int, end uint64) {
	t.Helper()
	if !bench.Through(x, h, end, 1000) {
		t.Fatalf("hart %d is at %d, not at %d; %d open", h, x.PC(h), end, x.Open(h))
	}
}

// calls is a hart's code that calls alloc (told into the next register from slots on), or gives back what such a register has.
func (y *yard) calls(h int, steps ...int) []api.Item {
	w := items.Begin(name(h))
	w.Const(items.Globals, y.l.Globals)
	told := slots
	for _, n := range steps {
		if n == alloc {
			w.Jump(items.From, "alloc")
			w.Copy(told, items.First)
			told++
			continue
		}
		w.Copy(items.First, slots+n)
		w.Jump(items.From, "free")
	}
	w.Label(name(h) + ".end")
	return stop(w)
}

const alloc = -1

// gone lets the yard's memory be that of the machine, and tells the free blocks.
func (y *yard) gone(t testing.TB, x *machine.Machine) []int {
	t.Helper()
	b, e := x.Bytes(0, y.m.Len())
	if e != api.OK {
		t.Fatal(int(e))
	}
	y.m.Put(0, b)
	return y.free(t)
}

// has tells the block's number that stands in one of a hart's registers; -1 of 0.
func (y *yard) has(t testing.TB, x *machine.Machine, h, n int) int {
	t.Helper()
	v, ok := x.X(h, slots+n)
	if !ok {
		t.Fatalf("hart %d: register %d is missing", h, slots+n)
	}
	if v == 0 {
		return -1
	}
	return int(v-y.l.Blocks) / int(y.l.BlockSize)
}

// P22.1, P22.3: wherever one hart waits in alloc, the first block goes around meanwhile: another one takes two, and gives the first one back, so that it stands first again and another one is behind it.
func TestGoesAround(t *testing.T) {
	for k := range 40 {
		y := laid(t, small(4), 20, 3)
		at := y.lay(t, y.calls(0, alloc), y.calls(1, alloc, alloc, 0))
		x := y.started(t, at, 2)
		for range k {
			bench.Step(x, 0, at[name(0)+".end"])
		}
		through(t, x, 1, at[name(1)+".end"])
		through(t, x, 0, at[name(0)+".end"])
		mine, first, second := y.has(t, x, 0, 0), y.has(t, x, 1, 0), y.has(t, x, 1, 1)
		if mine == second || mine < 0 || first == second {
			t.Fatalf("%d choices: %d is told; the other one was told %d and %d", k, mine, first, second)
		}
		all := append(y.gone(t, x), mine, second)
		slices.Sort(all)
		if !slices.Equal(all, []int{0, 1, 2, 3}) {
			t.Fatalf("%d choices: %d are there", k, all)
		}
		if n, _ := y.top(t); n != 4 {
			t.Fatalf("%d choices: %d changes", k, n)
		}
	}
}

// P22.2, P22.4: wherever one hart waits in free, others take and give back.
func TestWaitsInFree(t *testing.T) {
	for k := range 60 {
		y := laid(t, small(3), 20, 3)
		at := y.lay(t, y.calls(0, alloc, 0), y.calls(1, alloc, alloc, 1, alloc, 0))
		x := y.started(t, at, 2)
		for range k {
			bench.Step(x, 0, at[name(0)+".end"])
		}
		through(t, x, 1, at[name(1)+".end"])
		through(t, x, 0, at[name(0)+".end"])
		all := append(y.gone(t, x), y.has(t, x, 1, 2))
		slices.Sort(all)
		if !slices.Equal(all, []int{0, 1, 2}) {
			t.Fatalf("%d choices: %d are there", k, all)
		}
		if n, _ := y.top(t); n != 7 {
			t.Fatalf("%d choices: %d changes", k, n)
		}
	}
}

// P22.1: a hart that found no block is told 0, also if there is one again by then; one that found one is told it, or another one.
func TestLastBlock(t *testing.T) {
	told := [2]int{}
	for k := range 30 {
		y := laid(t, small(1), 20, 3)
		at := y.lay(t, y.calls(0, alloc), y.calls(1, alloc), y.calls(2, alloc))
		x := y.started(t, at, 3)
		for range k {
			bench.Step(x, 0, at[name(0)+".end"])
		}
		through(t, x, 1, at[name(1)+".end"])
		through(t, x, 0, at[name(0)+".end"])
		a, b := y.has(t, x, 0, 0), y.has(t, x, 1, 0)
		if a+b != -1 || len(y.gone(t, x)) != 0 {
			t.Fatalf("%d choices: %d and %d are told", k, a, b)
		}
		told[a+1]++
	}
	if min(told[0], told[1]) == 0 {
		t.Errorf("none and the one: %d times", told)
	}
}

// sc is the place of a hart's open sc that may perform; -1 if it has none.
func sc(x *machine.Machine, h int) int {
	for n := range x.Open(h) {
		if x.Clone().Choose(machine.Choice{Hart: h, Kind: machine.Fail, N: n}) == api.OK {
			return n
		}
	}
	return -1
}

// P22.1, P22.2: both try again as long as an sc fails; a try that failed changes nothing of GTop.
func TestScFails(t *testing.T) {
	for fails := range 7 {
		y := laid(t, small(3), 20, 3)
		at := y.lay(t, y.calls(0, alloc, alloc, 0))
		x := y.started(t, at, 1)
		end := at[name(0)+".end"]
		tries := 0
		for range 3000 {
			n := sc(x, 0)
			if n < 0 {
				if !bench.Step(x, 0, end) {
					break
				}
				continue
			}
			c := machine.Choice{Kind: machine.Perform, N: n}
			if tries%(fails+1) < fails {
				c.Kind = machine.Fail
			}
			was, _ := x.Bytes(y.l.Globals, 8*image.Globals)
			x.Choose(c)
			if now, _ := x.Bytes(y.l.Globals, 8*image.Globals); slices.Equal(now, was) != (c.Kind == machine.Fail) {
				t.Fatalf("try %d, kind %d: the globals were %d, are %d", tries, c.Kind, was, now)
			}
			tries++
		}
		if x.PC(0) != end || tries != 3*(fails+1) {
			t.Fatalf("%d fails: at %d, %d tries", fails, x.PC(0), tries)
		}
		if a, b := y.has(t, x, 0, 0), y.has(t, x, 0, 1); a != 0 || b != 1 {
			t.Errorf("%d fails: %d and %d are told", fails, a, b)
		}
		if l := y.gone(t, x); !slices.Equal(l, []int{0, 2}) {
			t.Errorf("%d fails: free are %d", fails, l)
		}
		if n, _ := y.top(t); n != 3 {
			t.Errorf("%d fails: %d changes", fails, n)
		}
	}
}

// P22.3, by the rules of program order: all that a hart did with a block ahead of free stands ahead of the sc that sets it free, and what it does with one stands behind the lr that found it.
func TestRules(t *testing.T) {
	y := laid(t, small(3), 20, 3)
	w := items.Begin(name(0))
	w.Const(items.Globals, y.l.Globals)
	w.Const(20, y.block(0))
	w.Jump(items.From, "alloc")
	w.Load(21, 20, image.BData)
	w.Store(items.Zero, 20, image.BRoot)
	w.Copy(items.First, 20)
	w.Load(22, 20, image.BData+1)
	w.Jump(items.From, "free")
	x := y.started(t, y.lay(t, stop(w)), 1)
	s := bench.Script{Row: 5, Style: bench.Oldest}
	if !s.Play(x, 10000) {
		t.Fatal("it goes on for too long")
	}
	traces, _ := x.Trace()
	ops := traces[0]
	top := word(y.l.Globals, image.GTop)
	is := func(store bool) func(api.Op) bool {
		return func(op api.Op) bool { return op.Addr == top && op.Store == store }
	}
	lr, last := slices.IndexFunc(ops, is(false)), len(ops)-1
	if lr < 0 || !is(true)(ops[last]) || !is(true)(ops[lr+2]) || ops[lr+2].Pair != ops[lr].ID || ops[last].Pair < 0 {
		t.Fatalf("it did %+v", ops)
	}
	for j := lr + 1; j <= last; j++ {
		if order.Rule(ops, lr, j) == 0 {
			t.Errorf("%+v may stand ahead of the lr", ops[j])
		}
	}
	for i := range last {
		if order.Rule(ops, i, last) == 0 {
			t.Errorf("%+v may stand behind the sc", ops[i])
		}
	}
	if order.Rule(ops, lr+1, lr+2) == 0 {
		t.Error("what is read of the first block may stand behind the sc")
	}
}
