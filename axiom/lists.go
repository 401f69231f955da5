package axiom

import (
	"iter"

	"postbag/api"
	"postbag/order"
)

// lists are what each hart does, in program order.
type lists [][]api.Op

// stand is where an operation stands: its hart, and its place in what that one does.
type stand struct{ hart, at int }

// op tells the operation that stands there.
func (l lists) op(s stand) *api.Op {
	return &l[s.hart][s.at]
}

// stands yields where all operations stand, hart by hart.
func (l lists) stands() iter.Seq[stand] {
	return func(yield func(stand) bool) {
		for h := range l {
			for k := range l[h] {
				if !yield(stand{h, k}) {
					return
				}
			}
		}
	}
}

// may tells whether each list may be, and IDs are unlike over all.
func (l lists) may() bool {
	met := map[int]stand{}
	for s := range l.stands() {
		id := l.op(s).ID
		if _, twice := met[id]; twice {
			return false
		}
		met[id] = s
	}
	for h := range l {
		if !order.Good(l[h]) {
			return false
		}
	}
	return true
}
