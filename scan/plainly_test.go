package scan_test

import (
	"slices"

	"postbag/scan"
)

// at tells whether a place is one of a life's.
func at(l scan.Life, place int) bool { return l.From <= place && place < l.To }

// meet tells plainly whether two lives do, place by place.
func meet(a, b scan.Life) bool {
	for place := a.From; place < a.To; place++ {
		if at(b, place) {
			return true
		}
	}
	return false
}

// plainOrder tells in which order lives are taken: always the first one of those left that begin first.
func plainOrder(l []scan.Life) []int {
	var order []int
	for range l {
		first := -1
		for i := range l {
			if !slices.Contains(order, i) && (first < 0 || l[i].From < l[first].From) {
				first = i
			}
		}
		order = append(order, first)
	}
	return order
}

// plainAssign tells the rooms as the words have them: who has a register now is looked up anew each time.
func plainAssign(l []scan.Life, regs int) ([]int, int) {
	rooms := map[int]int{} // of those that were taken
	slots := 0
	order := plainOrder(l)
	for rank, i := range order {
		var now []int // who has a register, in the order in which they were taken
		var has []int // which ones
		for _, k := range order[:rank] {
			if rooms[k] >= 0 && l[k].To > l[i].From {
				now, has = append(now, k), append(has, rooms[k])
			}
		}
		least := 0
		for slices.Contains(has, least) {
			least++
		}
		if least < regs {
			rooms[i] = least
			continue
		}
		goes := -1
		for _, k := range append(now, i) {
			if goes < 0 || l[k].To >= l[goes].To {
				goes = k
			}
		}
		slot := -1
		for taken := true; taken; {
			taken = false
			for k, room := range rooms {
				if k != goes && room == slot && meet(l[k], l[goes]) {
					taken = true
				}
			}
			if taken {
				slot--
			}
		}
		if goes != i {
			rooms[i] = rooms[goes]
		}
		rooms[goes] = slot
		slots = max(slots, -slot)
	}
	list := make([]int, len(l))
	for i := range list {
		list[i] = rooms[i]
	}
	return list, slots
}

// plainPeak counts the lives of each place.
func plainPeak(l []scan.Life) int {
	peak, last := 0, 0
	for _, life := range l {
		last = max(last, life.To)
	}
	for place := range last {
		n := 0
		for _, life := range l {
			if at(life, place) {
				n++
			}
		}
		peak = max(peak, n)
	}
	return peak
}
