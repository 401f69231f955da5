package order_test

import (
	"math"
	"slices"
	"testing"

	"postbag/api"
	"postbag/order"
)

// fair tells a list that may be.
func fair() []api.Op {
	return hart(
		acquire(load(7, 3, 4, -1, 2, 2, 0)),
		store(0, 8, 8),
		fence(2, 3, 1),
		addrs(load(5, last-7, 8, 0, 0, 0, 0, 0, 0, 0, 0), 7),
		release(amo(9, 1, 2, 5, 5)),
		datas(sc(4, last, 1, 7), 5),
		ctrls(sc(math.MaxInt, 2, 2, 9), 7),
	)
}

// P7.3: lists that may be.
func TestGood(t *testing.T) {
	paired := load(3, 0, 1, -1)
	paired.Pair = 0
	laid := fence(3, 0, 0)
	laid.Pair = 0
	odd := api.Op{ID: 3, Fence: true, Addr: 5, Size: 3, From: []int{1, 2}, Pred: -9, Succ: 99, Pair: -1} // of a fence nothing more is asked
	for _, l := range [][]api.Op{
		nil, {}, fair(), fair()[:1], fair()[:4],
		hart(fence(0, 0, 0)),
		hart(odd),
		hart(load(0, 0, 1, -1)), hart(load(0, 1, 2, -1, -1)), hart(load(0, 1, 4, -1, 5, 6, -9)), hart(load(1, 3, 8, 1, 2, 3, 4, 5, 6, 7, 8)),
		hart(store(0, 1, 1)), hart(store(0, 1, 2)), hart(store(0, 1, 4)), hart(store(0, 1, 8)),
		hart(load(0, 0, 1, -1), sc(1, 8, 4, 0)), // another place than its lr's: it is a Pair all the same
		hart(load(0, 0, 1, -1), sc(1, 0, 1, 0), sc(2, 0, 1, 0)),
		hart(amo(0, 0, 1, -1), sc(1, 0, 1, 0)),
		hart(load(0, 0, 1, -1), paired),
		hart(load(0, 0, 1, -1), laid),
		hart(addrs(datas(ctrls(store(0, 0, 1), 0, 5, -7), 9, 9), 8)), // of what it hangs on nothing is asked
		hart(load(0, last, 1, -1), store(1, last-1, 2), store(2, last-3, 4), store(3, last-7, 8)),
	} {
		if !order.Good(l) {
			t.Errorf("%+v may not be", l)
		}
	}
}

// P7.3: each reason for which a list may not be, of one that may be but for that.
func TestNotGood(t *testing.T) {
	type change struct {
		name string
		do   func(l []api.Op)
	}
	l := []change{
		{"an ID below 0", func(l []api.Op) { l[1].ID = -1 }},
		{"a fence's ID below 0", func(l []api.Op) { l[2].ID = -1 }},
		{"the least ID", func(l []api.Op) { l[1].ID = math.MinInt }},
		{"IDs alike", func(l []api.Op) { l[1].ID = 9 }},
		{"IDs alike, one a fence's", func(l []api.Op) { l[2].ID = 7 }},
		{"a fence that loads", func(l []api.Op) { l[2].Load, l[2].Size, l[2].From = true, 1, []int{-1} }},
		{"a fence that stores", func(l []api.Op) { l[2].Store, l[2].Size = true, 1 }},
		{"a load that is a fence", func(l []api.Op) { l[3].Fence = true }},
		{"a store that is a fence", func(l []api.Op) { l[1].Fence = true }},
		{"neither", func(l []api.Op) { l[1].Store = false }},
		{"neither, with a load's From", func(l []api.Op) { l[3].Load = false }},
		{"a store that would come round", func(l []api.Op) { l[1].Addr = last - 6 }},
		{"a load that would come round", func(l []api.Op) { l[3].Addr = last - 6 }},
		{"a store of two at the greatest place", func(l []api.Op) { l[6].Addr = last }},
		{"a load with From of one too few", func(l []api.Op) { l[0].From = l[0].From[:3] }},
		{"a load with From of one too many", func(l []api.Op) { l[0].From = append(l[0].From, 0) }},
		{"a load without From", func(l []api.Op) { l[0].From = nil }},
		{"an amo without From", func(l []api.Op) { l[4].From = nil }},
		{"a store with From", func(l []api.Op) { l[1].From = make([]int, 8) }},
		{"an sc with From", func(l []api.Op) { l[5].From = []int{7} }},
		{"a Pair that is nobody's ID", func(l []api.Op) { l[5].Pair = 8 }},
		{"a Pair below -1", func(l []api.Op) { l[5].Pair = -2 }},
		{"a load's Pair that is nobody's ID", func(l []api.Op) { l[3].Pair = 8 }},
		{"a fence's Pair that is nobody's ID", func(l []api.Op) { l[2].Pair = 8 }},
		{"a Pair that only stores", func(l []api.Op) { l[5].Pair = 0 }},
		{"a Pair that is a fence", func(l []api.Op) { l[5].Pair = 2 }},
		{"a Pair that is itself", func(l []api.Op) { l[5].Pair = 4 }},
		{"an amo's Pair that is itself", func(l []api.Op) { l[4].Pair = 9 }},
		{"a Pair that stands behind", func(l []api.Op) { l[1].Pair = 5 }},
		{"a fence's Pair that stands behind", func(l []api.Op) { l[2].Pair = 5 }},
	}
	for _, size := range []int{0, -1, -8, 3, 5, 6, 7, 9, 16, api.MaxMemory, api.MaxMemory + 1, 1<<32 + 8, math.MaxInt, math.MinInt, math.MinInt + 8} {
		l = append(l, change{"a store of another size", func(l []api.Op) { l[1].Size = size }})
		l = append(l, change{"a load of another size", func(l []api.Op) { l[3].Size, l[3].From = size, make([]int, max(0, min(size, 16))) }})
	}
	for _, c := range l {
		a := fair()
		c.do(a)
		if order.Good(a) {
			t.Errorf("%s: %+v", c.name, a)
		}
		if order.Good(slices.Concat(hart(store(77, 0, 1)), a, hart(store(78, 0, 1)))) {
			t.Errorf("%s, among others", c.name)
		}
	}
}

// P7.3: any operations, held against what is asked of each by itself.
func TestGoodAsTheDocumentTellsIt(t *testing.T) {
	r := row(13)
	met := 0
	for range 100000 {
		l := r.somes()
		for k := range l {
			r.mend(l, k)
		}
		want := fairly(l)
		if order.Good(l) != want {
			t.Fatalf("%+v: not %t", l, want)
		}
		if want {
			met++
		}
	}
	if met < 10000 || met > 90000 {
		t.Errorf("%d may be", met)
	}
}

// fairly tells whether operations may be, as it is written down.
func fairly(l []api.Op) bool {
	for k, a := range l {
		for _, b := range l[:k] {
			if a.ID == b.ID {
				return false
			}
		}
		from := 0
		if a.Load {
			from = a.Size
		}
		pair := a.Pair == -1 || anyOf(l[:k], func(b api.Op) bool { return b.ID == a.Pair && b.Load })
		moves := slices.Contains([]int{1, 2, 4, 8}, a.Size) && len(spread(a)) > 0 && len(a.From) == from
		if a.ID < 0 || !pair || a.Fence && (a.Load || a.Store) || !a.Fence && !moves {
			return false
		}
	}
	return true
}

// mend makes an operation one that may be, but for what is forgotten now and then.
func (r *row) mend(l []api.Op, k int) {
	a := &l[k]
	often := func() bool { return r.next(20) > 0 }
	if often() {
		a.ID, a.Pair = 10+k, max(-1, 9+k-r.next(4))
	}
	if often() {
		a.Size = 1 << r.next(4)
	}
	if a.Addr > 99 && often() {
		a.Addr -= 8
	}
	if a.Fence && often() {
		a.Load, a.Store = false, false
	}
	if !a.Fence && !a.Load && often() {
		a.Store = true
	}
	if often() {
		a.From = nil
		if a.Load && a.Size > 0 && a.Size <= 8 {
			a.From = make([]int, a.Size)
		}
	}
	if r.next(2) == 0 {
		a.Pair = -1
	}
}
