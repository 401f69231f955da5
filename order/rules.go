package order

import (
	"slices"

	"postbag/api"
)

// rules is how many there are, from 1 on.
const rules = 13

// The bits of what a fence is between.
const (
	writes = 1
	reads  = 2
)

// pair is two operations of a hart, a ahead of b, and those that stand between them.
type pair struct {
	a, b    *api.Op
	between []api.Op
}

// rule tells what is asked of a rule's number: whether that rule holds.
func (p pair) rule() func(n int) bool {
	a, b := p.a, p.b
	return func(n int) bool {
		switch n {
		case 1:
			return b.Store && !common(bytesOf(a), bytesOf(b)).empty()
		case 2:
			return p.apart()
		case 3:
			return (a.Load || a.Pair != -1) && a.Store && b.Load && p.returnsFromA()
		case 4:
			return p.fenced()
		case 5:
			return a.Aq
		case 6:
			return b.Rl
		case 7:
			return (a.Aq || a.Rl) && (b.Aq || b.Rl)
		case 8:
			return b.Pair == a.ID
		case 9:
			return p.onA(b.Addrs)
		case 10:
			return p.onA(b.Datas)
		case 11:
			return b.Store && p.onA(b.Ctrls)
		case 12:
			return b.Load && p.passedOn()
		case 13:
			return b.Store && p.placed()
		}
		return false
	}
}

// onA tells whether a's ID is one of these.
func (p pair) onA(ids []int) bool {
	return slices.Contains(ids, p.a.ID)
}

// apart tells whether both return a byte, to which nothing between them stores, by unlike IDs.
func (p pair) apart() bool {
	a, b := returnedBy(p.a), returnedBy(p.b)
	for x := range bare(common(a, b), p.between) {
		if p.a.From[x-a.first] != p.b.From[x-b.first] {
			return true
		}
	}
	return false
}

// returnsFromA tells whether b returns a byte by a's ID.
func (p pair) returnsFromA() bool {
	for id := range returned(p.b) {
		if id == p.a.ID {
			return true
		}
	}
	return false
}

// fenced tells whether a fence between them is one of what a does and of what b does.
func (p pair) fenced() bool {
	for k := range p.between {
		m := &p.between[k]
		if m.Fence && m.Pred&does(p.a) != 0 && m.Succ&does(p.b) != 0 {
			return true
		}
	}
	return false
}

// does tells the bits of what an operation does.
func does(a *api.Op) int {
	bits := 0
	if a.Load {
		bits |= reads
	}
	if a.Store {
		bits |= writes
	}
	return bits
}

// passedOn tells whether b returns a byte by a store between whose address or data hangs on a.
func (p pair) passedOn() bool {
	hang := map[int]int{} // where between them such a store stands, by its ID
	for k := range p.between {
		if m := &p.between[k]; m.Store && (p.onA(m.Addrs) || p.onA(m.Datas)) {
			hang[m.ID] = k
		}
	}
	for id := range returned(p.b) {
		if _, ok := hang[id]; ok {
			return true
		}
	}
	return false
}

// placed tells whether the address of something between them hangs on a.
func (p pair) placed() bool {
	for k := range p.between {
		if m := &p.between[k]; !m.Fence && p.onA(m.Addrs) {
			return true
		}
	}
	return false
}
