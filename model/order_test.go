package model_test

import (
	"slices"
	"testing"

	"postbag/api"
	"postbag/model"
	"postbag/value"
)

// P16.7: messages that one actor sends to another one arrive in the order in which they were sent; none comes twice.
func TestInOrder(t *testing.T) {
	p := laid(t, "actor M() { let a = spawn S(self, 1000); let b = spawn S(self, 2000); let c = spawn S(self, 3000); become R() } actor S(to, n) { send to, n; become S(to, n + 1) } actor R() { receive { x { out x; become R() } } } main M()")
	r := row(21)
	for range 20 {
		m, _ := model.New(p)
		last := map[int]int{}
		var sent, arrived int
		for range 600 {
			x := one(&r, m.Moves()...)
			if x.Kind == model.Run && m.Next(x.Actor) == model.Send {
				sent++
			}
			v, tells, e := m.Do(x)
			if e != api.OK {
				t.Fatal(int(e))
			}
			if !tells {
				continue
			}
			arrived++
			from, n := v.N/1000, v.N%1000
			if n != last[from] {
				t.Fatalf("%d of %d behind %d", n, from, last[from])
			}
			last[from] = n + 1
		}
		left := m.Waiting(0)
		if m.Next(0) == model.Out {
			left++
		}
		if sent != arrived+left || arrived < 10 {
			t.Errorf("%d sent, %d received, %d wait", sent, arrived, left)
		}
		// And what waits stands in that order, too.
		for _, v := range slices.Concat(m.Box(0), m.Way(0))[max(0, left-m.Waiting(0)):] {
			from, n := v.N/1000, v.N%1000
			if n < last[from] {
				t.Fatalf("%d of %d behind %d", n, from, last[from])
			}
			last[from] = n + 1
		}
	}
}

// P16.8: a receive takes the first message that fits.
func TestFirst(t *testing.T) {
	p := laid(t, "actor M() { let a = spawn S(self, 1); let b = spawn S(self, 4); become R(0) } actor S(to, n) { send to, {n, 0}; send to, {0, n}; send to, n; become S(to, n + 3) } actor R(k) { receive { {x, 0} when k < x { out {x, 0}; become R(x) } {0, x} { out {0, x}; become R(0 - x) } } } main M()")
	r := row(22)
	taken := 0
	for range 20 {
		m, _ := model.New(p)
		k := 0
		fits := func(v api.Value) bool {
			return v.Kind == api.ValTuple && (v.Args[1].N == 0 && k < v.Args[0].N || v.Args[0].N == 0)
		}
		for range 400 {
			x := one(&r, m.Moves()...)
			box, next := m.Box(0), m.Next(0)
			_, _, e := m.Do(x)
			if e != api.OK {
				t.Fatal(int(e))
			}
			if x != (model.Move{}) || next != model.Receive {
				continue
			}
			first := slices.IndexFunc(box, fits)
			if first < 0 || !slices.EqualFunc(m.Box(0), slices.Delete(slices.Clone(box), first, first+1), value.Same) {
				t.Fatalf("%s of %s", texts(m.Box(0)), texts(box))
			}
			taken++
			v := box[first]
			tells(t, m, 0, value.Text(v))
			k = v.Args[0].N - v.Args[1].N
			if v.Args[0].N == 0 {
				k = -v.Args[1].N
			}
			runs(t, m, 0, 1)
		}
	}
	if taken < 100 {
		t.Error(taken)
	}
}
