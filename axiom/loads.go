package axiom

import (
	"postbag/api"
	"postbag/order"
)

// mostTold is of how many bytes Writers tells who wrote them.
const mostTold = 8

// none stands for an ID where there is none: of a writer, or of a pair.
const none = -1

// has tells whether a byte is one of an operation's.
func has(a *api.Op, x uint64) bool {
	return order.Overlap(*a, api.Op{Load: true, Addr: x, Size: 1})
}

// writersOf tells who wrote the bytes of what stands at i; none, if it does not load.
func (v view) writersOf(i stand) []int {
	op := v.op(i)
	// What has no byte in common with itself has none.
	if !op.Load || !order.Overlap(*op, *op) {
		return nil
	}
	var stores []stand
	for s := range v.stands() {
		if v.op(s).Store {
			stores = append(stores, s)
		}
	}
	ids := make([]int, min(op.Size, mostTold))
	for k := range ids {
		ids[k] = idOf(v.writer(op.Addr+uint64(k), i, stores))
	}
	return ids
}

// writer tells who wrote a byte for the load at i, of these stores; nil, if nobody did.
func (v view) writer(x uint64, i stand, stores []stand) *api.Op {
	var last *api.Op
	place, lastAt := v.place(i), -1
	for _, s := range stores {
		at := v.place(s)
		ahead := at < place || s.hart == i.hart && s.at < i.at
		if ahead && at > lastAt && s != i && has(v.op(s), x) {
			last, lastAt = v.op(s), at
		}
	}
	return last
}

// idOf tells a writer's ID.
func idOf(w *api.Op) int {
	if w == nil {
		return none
	}
	return w.ID
}

// wrongValue tells whether what was loaded is not what was written.
func (v view) wrongValue(i stand) Wrong {
	op := v.op(i)
	if !op.Load {
		return Wrong{}
	}
	wrong := Wrong{Kind: ValueWrong, A: op.ID}
	value := uint64(0)
	for k := range op.Size {
		x := op.Addr + uint64(k)
		w := v.writer(x, i, v.stores[eight(x)])
		if op.From[k] != idOf(w) {
			return wrong
		}
		if w != nil {
			value |= w.Stored >> (8 * (x - w.Addr)) & 0xff << (8 * k)
		}
	}
	if op.Value != value {
		return wrong
	}
	return Wrong{}
}

// wrongPair tells whether what an operation's pair loaded is not so any more
// when the operation performs. That From has who wrote it was asked ahead.
func (v view) wrongPair(i stand) Wrong {
	w := v.op(i)
	r := v.pairOf(i)
	if r == nil {
		return Wrong{}
	}
	for k, s := range r.From {
		if v.broken(i, r.Addr+uint64(k), s) {
			return Wrong{PairWrong, w.ID, s}
		}
	}
	return Wrong{}
}

// pairOf tells the operation whose ID is the Pair of what stands at i; nil, if there is none.
func (v view) pairOf(i stand) *api.Op {
	pair := v.op(i).Pair
	if pair == none {
		return nil
	}
	for k := i.at - 1; k >= 0; k-- {
		if r := v.op(stand{i.hart, k}); r.ID == pair {
			return r
		}
	}
	return nil
}

// broken tells whether a byte was not as s wrote it when the operation at i
// performed: whether s wrote it later, or another hart did between the two.
func (v view) broken(i stand, x uint64, s int) bool {
	end, begin := v.place(i), -1
	if s != none {
		begin = v.places[s]
	}
	if begin >= end {
		return true
	}
	for _, o := range v.stores[eight(x)] {
		at := v.place(o)
		if o.hart != i.hart && begin < at && at < end && has(v.op(o), x) {
			return true
		}
	}
	return false
}
