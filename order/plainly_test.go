package order_test

import (
	"math/big"
	"slices"

	"postbag/api"
)

// spread tells the bytes of an operation, one by one.
func spread(a api.Op) []uint64 {
	if a.Size > api.MaxMemory || !a.Load && !a.Store {
		return nil
	}
	end := new(big.Int).SetUint64(a.Addr)
	end.Add(end, big.NewInt(int64(a.Size))) // one behind the last one
	if end.BitLen() > 64 && end.Cmp(new(big.Int).Lsh(big.NewInt(1), 64)) > 0 {
		return nil
	}
	var l []uint64
	for k := 0; k < a.Size; k++ {
		l = append(l, a.Addr+uint64(k))
	}
	return l
}

// by tells by which number an operation returns a byte.
func by(a api.Op, x uint64) (int, bool) {
	k := slices.Index(spread(a), x)
	if !a.Load || k < 0 || k >= len(a.From) {
		return 0, false
	}
	return a.From[k], true
}

// byID tells whether an operation returns a byte by a number.
func byID(a api.Op, id int) bool {
	for _, x := range spread(a) {
		if m, ok := by(a, x); ok && m == id {
			return true
		}
	}
	return false
}

// anyOf tells whether one of the operations is so.
func anyOf(l []api.Op, so func(m api.Op) bool) bool {
	return slices.ContainsFunc(l, so)
}

// meet tells whether two operations have a byte in common.
func meet(a, b api.Op) bool {
	for _, x := range spread(a) {
		if slices.Contains(spread(b), x) {
			return true
		}
	}
	return false
}

// unlike tells rule 2.
func unlike(a, b api.Op, between []api.Op) bool {
	for _, x := range spread(a) {
		m, ok := by(a, x)
		n, too := by(b, x)
		stored := anyOf(between, func(m api.Op) bool { return m.Store && slices.Contains(spread(m), x) })
		if ok && too && m != n && !stored {
			return true
		}
	}
	return false
}

// plainly tells the rules of two operations as they are written down.
func plainly(l []api.Op, i, j int) []int {
	if i < 0 || j < 0 || i >= len(l) || j >= len(l) || i >= j {
		return nil
	}
	a, b, between := l[i], l[j], l[i+1:j]
	if a.Fence || b.Fence || !a.Load && !a.Store || !b.Load && !b.Store {
		return nil
	}
	on := func(ids []int) bool { return slices.Contains(ids, a.ID) }
	fenced := func(m api.Op) bool {
		ahead := m.Pred&2 != 0 && a.Load || m.Pred&1 != 0 && a.Store
		behind := m.Succ&2 != 0 && b.Load || m.Succ&1 != 0 && b.Store
		return m.Fence && ahead && behind
	}
	var r []int
	for n, holds := range []bool{
		b.Store && meet(a, b),
		unlike(a, b, between),
		(a.Load && a.Store || a.Store && a.Pair != -1) && b.Load && byID(b, a.ID),
		anyOf(between, fenced),
		a.Aq,
		b.Rl,
		(a.Aq || a.Rl) && (b.Aq || b.Rl),
		b.Pair == a.ID,
		on(b.Addrs),
		on(b.Datas),
		b.Store && on(b.Ctrls),
		b.Load && anyOf(between, func(m api.Op) bool { return m.Store && (on(m.Addrs) || on(m.Datas)) && byID(b, m.ID) }),
		b.Store && anyOf(between, func(m api.Op) bool { return !m.Fence && on(m.Addrs) }),
	} {
		if holds {
			r = append(r, n+1)
		}
	}
	return r
}
