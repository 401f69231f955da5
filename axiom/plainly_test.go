package axiom_test

import (
	"slices"

	"postbag/api"
	"postbag/axiom"
	rules "postbag/order"
)

// at tells whether a byte is one of an operation's. It is of tests with places far from 2^64 alone.
func at(a api.Op, x uint64) bool {
	return a.Size >= 1 && a.Size <= api.MaxMemory && x >= a.Addr && x < a.Addr+uint64(a.Size)
}

// writers tells the writers of a load's bytes as it is written down.
func writers(h [][]api.Op, gmo []int, id int) []int {
	for n, l := range h {
		for k, i := range l {
			if i.ID != id {
				continue
			}
			if !i.Load || i.Size < 1 || i.Size > api.MaxMemory {
				return nil
			}
			var w []int
			for x := i.Addr; x < i.Addr+uint64(min(i.Size, 8)); x++ {
				w = append(w, writer(h, gmo, n, k, x))
			}
			return w
		}
	}
	return nil
}

// writer tells the writer of a byte for what is the k-th of the n-th hart: gmo
// is gone through from behind till somebody is met that may be it.
func writer(h [][]api.Op, gmo []int, n, k int, x uint64) int {
	place := slices.Index(gmo, h[n][k].ID)
	for p := len(gmo) - 1; p >= 0; p-- {
		for hart, l := range h {
			for j, s := range l {
				ahead := p < place || hart == n && j < k
				if s.ID == gmo[p] && s.Store && at(s, x) && ahead && (hart != n || j != k) {
					return s.ID
				}
			}
		}
	}
	return -1
}

// find tells the operation of an ID.
func find(h [][]api.Op, id int) api.Op {
	for _, l := range h {
		for _, a := range l {
			if a.ID == id {
				return a
			}
		}
	}
	return api.Op{ID: -1}
}

// written tells the number that From wrote.
func written(h [][]api.Op, i api.Op) uint64 {
	v := uint64(0)
	for k := len(i.From) - 1; k >= 0; k-- {
		v *= 256
		if i.From[k] != -1 {
			s := find(h, i.From[k])
			v += s.Stored >> (8 * (i.Addr + uint64(k) - s.Addr)) % 256
		}
	}
	return v
}

// check tells the first thing that is wrong, as it is written down.
func check(h [][]api.Op, gmo []int) axiom.Wrong {
	if !listed(h, gmo) {
		return axiom.Wrong{Kind: axiom.OrderWrong}
	}
	ahead := func(a, b int) bool { return slices.Index(gmo, a) < slices.Index(gmo, b) }
	for _, l := range h {
		for j := range l {
			for i := range j {
				if r := rules.Rule(l, i, j); r > 0 && ahead(l[j].ID, l[i].ID) {
					return axiom.Wrong{Kind: r, A: l[i].ID, B: l[j].ID}
				}
			}
		}
	}
	for _, l := range h {
		for _, i := range l {
			if i.Load && (!slices.Equal(i.From, writers(h, gmo, i.ID)) || i.Value != written(h, i)) {
				return axiom.Wrong{Kind: axiom.ValueWrong, A: i.ID}
			}
		}
	}
	for n, l := range h {
		for _, w := range l {
			if w.Fence || w.Pair == -1 {
				continue
			}
			r := find(h, w.Pair)
			for k, s := range r.From {
				if s != -1 && !ahead(s, w.ID) || between(h, gmo, n, s, w.ID, r.Addr+uint64(k)) {
					return axiom.Wrong{Kind: axiom.PairWrong, A: w.ID, B: s}
				}
			}
		}
	}
	return axiom.Wrong{}
}

// between tells whether another hart than the n-th stores to a byte behind s and ahead of w.
func between(h [][]api.Op, gmo []int, n, s, w int, x uint64) bool {
	for _, id := range gmo[slices.Index(gmo, s)+1 : slices.Index(gmo, w)] {
		o := find(h, id)
		own := slices.ContainsFunc(h[n], func(a api.Op) bool { return a.ID == id })
		if !own && o.Store && at(o, x) {
			return true
		}
	}
	return false
}

// listed tells whether lists and IDs may be, and an order has just what loads or stores.
func listed(h [][]api.Op, gmo []int) bool {
	var all, move []int
	for _, l := range h {
		if !rules.Good(l) {
			return false
		}
		for _, a := range l {
			all = append(all, a.ID)
			if a.Load || a.Store {
				move = append(move, a.ID)
			}
		}
	}
	slices.Sort(all)
	slices.Sort(move)
	gmo = slices.Clone(gmo)
	slices.Sort(gmo)
	return len(slices.Compact(slices.Clone(all))) == len(all) && slices.Equal(move, gmo)
}

// search goes through all orders of some IDs, place by place, and tells the
// first one with nothing wrong among the first most that stand against no rule.
func search(h [][]api.Op, ids []int, most int) ([]int, bool) {
	ids = slices.Clone(ids)
	slices.Sort(ids)
	var found []int
	ok := false
	all(nil, ids, func(gmo []int) bool {
		w := check(h, gmo)
		if w.Kind >= 1 && w.Kind <= 13 {
			return true
		}
		if most <= 0 {
			return false
		}
		most--
		if w == (axiom.Wrong{}) {
			found, ok = slices.Clone(gmo), true
		}
		return !ok
	})
	return found, ok
}

// all hands out all orders that begin so, until one is refused.
func all(begun, left []int, take func([]int) bool) bool {
	if len(left) == 0 {
		return take(begun)
	}
	for k, id := range left {
		if !all(slices.Concat(begun, []int{id}), slices.Concat(left[:k], left[k+1:]), take) {
			return false
		}
	}
	return true
}
