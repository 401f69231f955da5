package axiom

import (
	"slices"

	"postbag/order"
)

// view is what harts do, as one order of all memory has it.
type view struct {
	lists
	places map[int]int        // where each ID stands in the order
	moving []stand            // who loads or stores, hart by hart
	stores map[uint64][]stand // of each eight bytes, who stores to one of them
}

// looked tells a view of harts, without an order, and whether these may be.
func looked(l lists) (view, bool) {
	if !l.may() {
		return view{}, false
	}
	v := view{lists: l, places: map[int]int{}, stores: map[uint64][]stand{}}
	for s := range l.stands() {
		op := l.op(s)
		if op.Load || op.Store {
			v.moving = append(v.moving, s)
		}
		if op.Store {
			v.keep(s)
		}
	}
	return v, true
}

// keep keeps a store with the bytes that it stores to.
func (v view) keep(s stand) {
	op := v.op(s)
	first, last := eight(op.Addr), eight(op.Addr+uint64(op.Size-1))
	v.stores[first] = append(v.stores[first], s)
	if last != first {
		v.stores[last] = append(v.stores[last], s)
	}
}

// eight tells which eight bytes a byte is one of.
func eight(x uint64) uint64 {
	return x / 8
}

// ids tells the IDs of all that load or store, rising.
func (v view) ids() []int {
	var l []int
	for _, s := range v.moving {
		l = append(l, v.op(s).ID)
	}
	slices.Sort(l)
	return l
}

// lay lays an order; one that was laid ahead of it is of the same IDs.
func (v view) lay(gmo []int) {
	for k, id := range gmo {
		v.places[id] = k
	}
}

// place tells where an operation stands in the order; -1, ahead of all, if it does not.
func (v view) place(s stand) int {
	if at, ok := v.places[v.op(s).ID]; ok {
		return at
	}
	return -1
}

// against tells the first two operations that the order has against a rule.
func (v view) against() Wrong {
	for h, l := range v.lists {
		at := make([]int, len(l))
		for j := range l {
			at[j] = v.place(stand{h, j})
			for i := range j {
				if at[j] > at[i] {
					continue
				}
				if r := order.Rule(l, i, j); r != 0 {
					return Wrong{r, l[i].ID, l[j].ID}
				}
			}
		}
	}
	return Wrong{}
}

// loaded tells the first wrong value, or else the first wrong pair.
func (v view) loaded() Wrong {
	for _, wrong := range []func(stand) Wrong{v.wrongValue, v.wrongPair} {
		for _, s := range v.moving {
			if w := wrong(s); w != (Wrong{}) {
				return w
			}
		}
	}
	return Wrong{}
}
