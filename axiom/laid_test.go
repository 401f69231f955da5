package axiom_test

import (
	"math"
	"slices"

	"postbag/api"
)

const last = math.MaxUint64 // the greatest place

// load tells a load of bytes that have v, each written by its From.
func load(id int, at uint64, v uint64, from ...int) api.Op {
	return api.Op{ID: id, Load: true, Addr: at, Size: len(from), Value: v, From: from, Pair: -1}
}

func store(id int, at uint64, size int, v uint64) api.Op {
	return api.Op{ID: id, Store: true, Addr: at, Size: size, Stored: v, Pair: -1}
}

func amo(id int, at uint64, v, stored uint64, from ...int) api.Op {
	a := load(id, at, v, from...)
	a.Store, a.Stored = true, stored
	return a
}

func sc(id int, at uint64, size int, v uint64, pair int) api.Op {
	a := store(id, at, size, v)
	a.Pair = pair
	return a
}

func fence(id, pred, succ int) api.Op {
	return api.Op{ID: id, Fence: true, Pred: pred, Succ: succ, Pair: -1}
}

// hart tells what a hart does.
func hart(l ...api.Op) []api.Op { return l }

// harts tells what each hart does.
func harts(l ...[]api.Op) [][]api.Op { return l }

// order tells an order of all memory.
func order(ids ...int) []int { return ids }

// row tells numbers below n, one behind the other, alike each time.
type row uint64

func (r *row) next(n int) int {
	*r = *r*6364136223846793005 + 1442695040888963407
	return int(uint64(*r) >> 33 % uint64(n))
}

// shuffled tells a list in any order.
func (r *row) shuffled(l []int) []int {
	l = slices.Clone(l)
	for k := range l {
		n := k + r.next(len(l)-k)
		l[k], l[n] = l[n], l[k]
	}
	return l
}

// some tells an operation that may be, but for what it loads: that is nobody's yet.
func (r *row) some(id int) api.Op {
	a := api.Op{ID: id, Size: 1 << r.next(4), Pair: -1, Aq: r.next(12) == 0, Rl: r.next(12) == 0}
	a.Addr = 60 + uint64(r.next(7))
	switch r.next(7) {
	case 0, 1, 2:
		a.Load = true
	case 3, 4:
		a.Store = true
	case 5:
		a.Load, a.Store = true, true
	case 6:
		return fence(id, r.next(4), r.next(4))
	}
	if a.Load {
		a.From = slices.Repeat([]int{-1}, a.Size)
	}
	if a.Store {
		a.Stored = uint64(r.next(1<<31))<<33 ^ uint64(r.next(1<<31))
	}
	return a
}

// hang lets the last one of a hart hang on those ahead that load.
func (r *row) hang(l []api.Op) {
	a := &l[len(l)-1]
	for _, b := range l[:len(l)-1] {
		if !b.Load || a.Fence || r.next(4) > 0 {
			continue
		}
		switch r.next(4) {
		case 0:
			a.Addrs = append(a.Addrs, b.ID)
		case 1:
			a.Datas = append(a.Datas, b.ID)
		case 2:
			a.Ctrls = append(a.Ctrls, b.ID)
		case 3:
			a.Pair = b.ID
		}
	}
}

// somes tells n operations of at most 4 harts, and the IDs of those that load or store.
func (r *row) somes(n int) ([][]api.Op, []int) {
	h := make([][]api.Op, 1+r.next(4))
	ids := make([]int, n)
	for k := range ids {
		ids[k] = k
	}
	var gmo []int
	for _, id := range r.shuffled(ids) {
		k := r.next(len(h))
		a := r.some(id)
		h[k] = append(h[k], a)
		r.hang(h[k])
		if !a.Fence {
			gmo = append(gmo, id)
		}
	}
	return h, gmo
}

// fill gives each load what an order lets it have.
func fill(h [][]api.Op, gmo []int) {
	for _, l := range h {
		for k := range l {
			if l[k].Load {
				l[k].From = writers(h, gmo, l[k].ID)
				l[k].Value = written(h, l[k])
			}
		}
	}
}
