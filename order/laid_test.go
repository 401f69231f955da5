package order_test

import (
	"math"
	"slices"
	"testing"

	"postbag/api"
	"postbag/order"
)

const last = math.MaxUint64 // the greatest place

func load(id int, at uint64, size int, from ...int) api.Op {
	return api.Op{ID: id, Load: true, Addr: at, Size: size, From: from, Pair: -1}
}

func store(id int, at uint64, size int) api.Op {
	return api.Op{ID: id, Store: true, Addr: at, Size: size, Pair: -1}
}

func amo(id int, at uint64, size int, from ...int) api.Op {
	a := load(id, at, size, from...)
	a.Store = true
	return a
}

func sc(id int, at uint64, size, pair int) api.Op {
	a := store(id, at, size)
	a.Pair = pair
	return a
}

func fence(id, pred, succ int) api.Op {
	return api.Op{ID: id, Fence: true, Pred: pred, Succ: succ, Pair: -1}
}

func addrs(a api.Op, ids ...int) api.Op {
	a.Addrs = ids
	return a
}

func datas(a api.Op, ids ...int) api.Op {
	a.Datas = ids
	return a
}

func ctrls(a api.Op, ids ...int) api.Op {
	a.Ctrls = ids
	return a
}

func acquire(a api.Op) api.Op {
	a.Aq = true
	return a
}

func release(a api.Op) api.Op {
	a.Rl = true
	return a
}

// hart tells what a hart does.
func hart(l ...api.Op) []api.Op { return l }

// told asks the rules of two operations; Rule has to tell the first of them.
func told(t *testing.T, l []api.Op, i, j int) []int {
	t.Helper()
	r := order.Rules(l, i, j)
	first := 0
	if len(r) > 0 {
		first = r[0]
	}
	if n := order.Rule(l, i, j); n != first {
		t.Errorf("Rule of %d and %d of %+v: %d, not %d", i, j, l, n, first)
	}
	return r
}

// asked is what a hart does, and the rules that its first and its last operation have.
type asked struct {
	name string
	l    []api.Op
	want []int
}

// hold asks the rules of each case's first and last operation.
func hold(t *testing.T, l []asked) {
	t.Helper()
	for _, c := range l {
		if r := told(t, c.l, 0, len(c.l)-1); !slices.Equal(r, c.want) {
			t.Errorf("%s: %d, not %d", c.name, r, c.want)
		}
	}
}

// row tells numbers below n, one behind the other, alike each time.
type row uint64

func (r *row) next(n int) int {
	*r = *r*6364136223846793005 + 1442695040888963407
	return int(uint64(*r) >> 33 % uint64(n))
}

// ids tells at most n IDs of the lowest ones, or -1.
func (r *row) ids(n int) []int {
	l := make([]int, r.next(n+1))
	for k := range l {
		l[k] = r.next(6) - 1
	}
	return l
}

// some tells an operation of any shape: it may well be none that may be.
func (r *row) some() api.Op {
	a := api.Op{
		ID: r.next(6) - 1, Load: r.next(3) > 0, Store: r.next(2) == 0, Fence: r.next(6) == 0,
		Addr: uint64(r.next(6)), Size: []int{1, 1, 2, 2, 4, 8, 3, 0, -1, math.MinInt, api.MaxMemory + 1, math.MaxInt}[r.next(12)],
		Aq: r.next(8) == 0, Rl: r.next(8) == 0, Pred: r.next(4), Succ: r.next(4),
		Pair: max(-1, r.next(14)-8), From: r.ids(4),
	}
	if r.next(6) == 0 {
		a.Addr = last - a.Addr
	}
	if r.next(2) == 0 {
		a.Addrs, a.Datas, a.Ctrls = r.ids(2), r.ids(2), r.ids(2)
	}
	return a
}

// somes tells operations of any shape, at least two.
func (r *row) somes() []api.Op {
	l := make([]api.Op, 2+r.next(4))
	for k := range l {
		l[k] = r.some()
	}
	return l
}
