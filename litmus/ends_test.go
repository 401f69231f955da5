package litmus_test

import (
	"fmt"
	"math"
	"slices"
	"testing"

	"postbag/api"
	"postbag/axiom"
	"postbag/inst"
	"postbag/litmus"
	"postbag/machine"
	"postbag/memory"
)

// enough is more than the tests here have of machines and of orders.
const enough = 4000000

// listed tells that ends are rising, each once.
func listed(t *testing.T, l []string) {
	t.Helper()
	for k := 1; k < len(l); k++ {
		if l[k-1] >= l[k] {
			t.Errorf("%q is not rising", l)
		}
	}
}

// P10.2 and P10.3: tests whose ends are known, example 1 among them.
func TestKnown(t *testing.T) {
	for _, c := range known {
		was := copied(c.t)
		l, ok := litmus.Explore(c.t, enough)
		if !ok || !slices.Equal(l, c.ends) {
			t.Errorf("%s: the machine comes to %q, %t, not %q", c.name, l, ok, c.ends)
		}
		l, ok = litmus.Allowed(c.t, enough)
		if !ok || !slices.Equal(l, c.ends) {
			t.Errorf("%s: allowed are %q, %t, not %q", c.name, l, ok, c.ends)
		}
		if !slices.EqualFunc(c.t, was, func(a, b []litmus.Do) bool { return slices.Equal(a, b) }) {
			t.Errorf("%s: the test was changed", c.name)
		}
	}
}

// P10.2 and P10.3: stores that two others see in two orders, unless fences are between the loads.
func TestSeenInTwoOrders(t *testing.T) {
	for _, c := range []struct {
		between []litmus.Do
		ends    int
		met     bool
	}{{nil, 16, true}, {hart(fence(34)), 15, false}, {hart(fence(17)), 16, true}} {
		reads := func(a, b int) []litmus.Do { return slices.Concat(hart(ld(a)), c.between, hart(ld(b))) }
		x := test(hart(st(0, 1)), hart(st(1, 1)), reads(0, 1), reads(1, 0))
		for name, ends := range map[string]func([][]litmus.Do, int) ([]string, bool){"machine": litmus.Explore, "axioms": litmus.Allowed} {
			l, ok := ends(x, enough)
			if !ok || len(l) != c.ends || slices.Contains(l, "1 0 1 0 : 1 1 0 0") != c.met {
				t.Errorf("%s, %v: %q, %t", name, c.between, l, ok)
			}
			listed(t, l)
		}
	}
}

// P10.2: most is how many unlike machines may be met.
func TestExploreMost(t *testing.T) {
	for _, c := range []struct {
		t      [][]litmus.Do
		unlike int
	}{
		{test(nil), 2},
		{test(nil, nil, nil), 8},
		{test(hart(fence(51))), 3},
		{test(hart(ld(0))), 5},
		{test(hart(st(0, 1))), 6},
		{test(hart(sw(0, 1))), 7},
		{test(hart(st(0, 1)), hart(st(1, 1))), 36}, // in whichever order they are issued
		{test(hart(st(0, 1)), nil, hart(ld(1))), 60},
	} {
		for _, most := range []int{c.unlike, c.unlike + 1, math.MaxInt} {
			if l, ok := litmus.Explore(c.t, most); !ok || len(l) == 0 {
				t.Errorf("%v, %d of %d: %q, %t", c.t, most, c.unlike, l, ok)
			}
		}
		for _, most := range []int{c.unlike - 1, 1, 0, -1, math.MinInt} {
			if l, ok := litmus.Explore(c.t, most); ok || l != nil {
				t.Errorf("%v, %d of %d: %q, %t", c.t, most, c.unlike, l, ok)
			}
		}
	}
}

// P10.3: most is how many orders there may be, whatever rules out of them.
func TestAllowedMost(t *testing.T) {
	stores := slices.Repeat([]litmus.Do{st(0, 1)}, 5)
	loads := hart(ld(0), ld(1), ld(2), ld(3))
	for _, c := range []struct {
		t      [][]litmus.Do
		orders int
	}{
		{test(nil), 1},
		{test(many(6)), 1},
		{test(hart(ld(0))), 1},
		{test(hart(st(0, 1), st(0, 2))), 2},
		{test(hart(st(0, 1), fence(51), st(1, 2)), hart(sw(1, 1))), 6},
		{test(stores), 120},
		{test(stores, stores), 3628800},
		{test(loads, loads, hart(st(0, 1), st(1, 2))), 3628800},
		{test(hart(sw(0, 1), sw(1, 2), st(2, 3)), hart(sw(1, 4), sw(0, 5), st(3, 6)), hart(ld(2), ld(3)), hart(ld(3), ld(2))), 3628800},
	} {
		for _, most := range []int{c.orders, c.orders + 1, math.MaxInt} {
			if l, ok := litmus.Allowed(c.t, most); !ok || len(l) == 0 {
				t.Errorf("%v, %d of %d: %q, %t", c.t, most, c.orders, l, ok)
			}
		}
		for _, most := range []int{c.orders - 1, 0, -1, math.MinInt} {
			if l, ok := litmus.Allowed(c.t, most); ok || l != nil {
				t.Errorf("%v, %d of %d: %q, %t", c.t, most, c.orders, l, ok)
			}
		}
	}
}

// P10.4 and P10.5: the machine comes to just what the axioms allow.
func TestSoundAndWhole(t *testing.T) {
	r := row(3)
	several, met := 0, 0
	for range 400 {
		x := r.some(3, 5)
		l, ok := litmus.Explore(x, 3000)
		if !ok {
			continue
		}
		met++
		a, is := litmus.Allowed(x, 120)
		if !is || !slices.Equal(l, a) {
			t.Fatalf("%v: the machine comes to %q, allowed are %q, %t", x, l, a, is)
		}
		listed(t, l)
		if len(l) > 1 {
			several++
		}
	}
	if met < 200 || several < 50 {
		t.Errorf("%d were explored, %d have several ends", met, several)
	}
}

// P10.2: the ends, and how many machines are unlike, gone through once more, with nothing left out of what is alike.
func TestExplorePlainly(t *testing.T) {
	r := row(5)
	met := 0
	for range 200 {
		x := r.some(3, 4)
		ends, unlike, ok := plainEnds(x, 300)
		if !ok {
			continue
		}
		met++
		if l, ok := litmus.Explore(x, unlike); !ok || !slices.Equal(l, ends) {
			t.Fatalf("%v: %q, %t, not %q", x, l, ok, ends)
		}
		if _, ok := litmus.Explore(x, unlike-1); ok {
			t.Fatalf("%v: fewer than %d machines", x, unlike)
		}
	}
	if met < 50 {
		t.Errorf("%d were explored", met)
	}
}

// plainEnds tells the ends that a machine comes to, and how many unlike ones there are, unless these are more than most.
func plainEnds(x [][]litmus.Do, most int) ([]string, int, bool) {
	b := memory.New(2048)
	var pcs []uint64
	for h, l := range litmus.Code(x) {
		pcs = append(pcs, uint64(256*h))
		for k, i := range l {
			w, _ := inst.Encode(i)
			b.Store(uint64(256*h+4*k), 4, uint64(w))
		}
	}
	start, _ := machine.New(b, pcs)
	met, ends := map[string]int{looks(start): 0}, map[string]int{}
	list := []*machine.Machine{start}
	for len(list) > 0 {
		m := list[0]
		list = list[1:]
		l := m.Choices()
		for _, c := range l {
			n := m.Clone()
			n.Choose(c)
			if _, ok := met[looks(n)]; !ok {
				met[looks(n)] = len(met)
				list = append(list, n)
			}
		}
		if len(met) > most {
			return nil, 0, false
		}
		if len(l) == 0 {
			ends[plainEnd(x, m)]++
		}
	}
	var l []string
	for s := range ends {
		l = append(l, s)
	}
	slices.Sort(l)
	return l, len(met), true
}

// looks tells all that unlike machines may be told apart by.
func looks(m *machine.Machine) string {
	s := ""
	l, gmo := m.Trace()
	for h := range m.Harts() {
		s += fmt.Sprint(m.PC(h), m.Open(h), int(m.Stopped(h)), " ")
		for r := range 32 {
			v, ok := m.X(h, r)
			s += fmt.Sprint(v, ok, " ")
		}
		for _, op := range l[h] {
			s += fmt.Sprint(slices.Contains(gmo, op.ID), " ")
		}
	}
	b, _ := m.Bytes(0, 2048)
	return s + string(b)
}

func plainEnd(x [][]litmus.Do, m *machine.Machine) string {
	s := ""
	for h, l := range x {
		k := 12
		for _, d := range l {
			if d.Kind == litmus.Load || d.Kind == litmus.Swap {
				v, _ := m.X(h, k)
				s += fmt.Sprint(v, " ")
				k++
			}
		}
	}
	s += ":"
	for at := range uint64(4) {
		b, _ := m.Bytes(1024+8*at, 8)
		s += fmt.Sprint(" ", b[0])
	}
	return s
}

// P10.3: all orders, one by one, each asked as a whole.
func TestAllowedPlainly(t *testing.T) {
	r := row(7)
	several := 0
	for range 1000 {
		x := r.some(4, 6)
		want := plainAllowed(x)
		if l, ok := litmus.Allowed(x, 720); !ok || !slices.Equal(l, want) {
			t.Fatalf("%v: %q, %t, not %q", x, l, ok, want)
		}
		if len(want) > 1 {
			several++
		}
	}
	if several < 50 {
		t.Errorf("%d have several ends", several)
	}
}

// plainAllowed tells the ends that axioms allow.
func plainAllowed(x [][]litmus.Do) []string {
	var harts [][]api.Op
	stored := map[int]uint64{-1: 0}
	var ids []int
	for h, things := range x {
		var l []api.Op
		for k, d := range things {
			op := api.Op{ID: 10*h + k, Pair: -1}
			switch {
			case d.Kind == litmus.Fence:
				op.Fence, op.Pred, op.Succ = true, int(d.V/16%4), int(d.V%4)
			default:
				op.Load, op.Store, op.Addr, op.Size = d.Kind != litmus.Store, d.Kind != litmus.Load, 1024+8*uint64(d.At), 8
				op.Aq, op.Rl, op.Stored = d.Aq, d.Rl, d.V
				stored[op.ID] = d.V
				ids = append(ids, op.ID)
			}
			l = append(l, op)
		}
		harts = append(harts, l)
	}
	ends := map[string]int{}
	for gmo := range permuted(ids) {
		var loads []uint64
		for _, l := range harts {
			for k := range l {
				if l[k].Load {
					l[k].From = axiom.Writers(harts, gmo, l[k].ID)
					l[k].Value = stored[l[k].From[0]]
					loads = append(loads, l[k].Value)
				}
			}
		}
		if axiom.Check(harts, gmo) == (axiom.Wrong{}) {
			mem := make([]uint64, 4)
			for _, id := range gmo {
				if d := x[id/10][id%10]; d.Kind != litmus.Load {
					mem[d.At] = d.V
				}
			}
			ends[litmus.Text(loads, mem)]++
		}
	}
	var l []string
	for s := range ends {
		l = append(l, s)
	}
	slices.Sort(l)
	return l
}

// permuted yields all orders of some numbers.
func permuted(l []int) func(func([]int) bool) {
	return func(yield func([]int) bool) {
		var put func(done, left []int) bool
		put = func(done, left []int) bool {
			if len(left) == 0 {
				return yield(done)
			}
			for k, n := range left {
				rest := slices.Concat(left[:k], left[k+1:])
				if !put(append(slices.Clone(done), n), rest) {
					return false
				}
			}
			return true
		}
		put(nil, l)
	}
}

// What is told twice is alike, and each list is its caller's own.
func TestAlike(t *testing.T) {
	x := test(hart(st(0, 1), ld(1)), hart(st(1, 1), ld(0)))
	for _, ends := range []func([][]litmus.Do, int) ([]string, bool){litmus.Explore, litmus.Allowed} {
		a, _ := ends(x, enough)
		b, _ := ends(x, enough)
		if !slices.Equal(a, b) {
			t.Errorf("%q, then %q", a, b)
		}
		a[0] = "changed"
		c, _ := ends(x, enough)
		if b[0] == "changed" || !slices.Equal(b, c) {
			t.Errorf("%q, then %q", b, c)
		}
	}
	l := litmus.Code(x)
	l[0][0].Rd = 31
	if litmus.Code(x)[0][0].Rd != 5 {
		t.Error("code is shared")
	}
}
