package axiom

import (
	"cmp"
	"iter"
	"slices"

	"postbag/order"
)

// step is an operation that is put into orders, and the steps, as bits of a set, that stand ahead of it.
type step struct {
	id    int
	at    stand
	ahead uint
}

// steps tells what loads or stores, by rising IDs, and by the rules what stands ahead of each.
func (v view) steps() []step {
	var l []step
	for _, s := range v.moving {
		l = append(l, step{id: v.op(s).ID, at: s})
	}
	slices.SortFunc(l, func(a, b step) int { return cmp.Compare(a.id, b.id) })
	for j := range l {
		for i := range l {
			a, b := l[i].at, l[j].at
			if a.hart == b.hart && order.Rule(v.lists[a.hart], a.at, b.at) != 0 {
				l[j].ahead |= 1 << i
			}
		}
	}
	return l
}

// orders yields the orders in which no two operations stand against a rule,
// those with lesser numbers ahead, in one list that is written into again.
func (v view) orders() iter.Seq[[]int] {
	steps := v.steps()
	return func(yield func([]int) bool) {
		gmo := make([]int, 0, len(steps))
		var put func(done uint) bool
		put = func(done uint) bool {
			if len(gmo) == len(steps) {
				return yield(gmo)
			}
			for k, s := range steps {
				// What has to stand ahead is waited for: an order that is
				// begun without it becomes none that is whole.
				if done>>k&1 != 0 || s.ahead&^done != 0 {
					continue
				}
				gmo = append(gmo, s.id)
				if !put(done | 1<<k) {
					return false
				}
				gmo = gmo[:len(gmo)-1]
			}
			return true
		}
		put(0)
	}
}
