package order_test

import (
	"fmt"
	"math"
	"reflect"
	"slices"
	"testing"

	"postbag/api"
	"postbag/order"
)

// Example 1.
func TestExample(t *testing.T) {
	hold(t, []asked{
		{"a load of 8 bytes at 0, then a store at 4", hart(load(0, 0, 8), store(1, 4, 4)), []int{1}},
		{"two stores at 0 and 8", hart(store(0, 0, 8), store(1, 8, 8)), nil},
		{"with a fence 1, 1 between them", hart(store(0, 0, 8), fence(2, 1, 1), store(1, 8, 8)), []int{4}},
	})
}

// P7.2: of what is no place, or not ahead, there are no rules.
func TestNoPlaces(t *testing.T) {
	l := hart(acquire(load(0, 0, 1, -1)), acquire(store(1, 0, 1)), release(store(2, 0, 1)))
	for _, c := range [][2]int{
		{-1, 0}, {-1, 1}, {0, -1}, {-1, -1}, {-2, -1}, {0, 3}, {2, 3}, {3, 3}, {3, 4}, {1, math.MaxInt}, {math.MinInt, 1}, {math.MinInt, math.MaxInt},
		{math.MaxInt, math.MinInt}, {math.MaxInt, math.MaxInt}, {math.MinInt, math.MinInt}, {0, 0}, {1, 1}, {2, 2}, {1, 0}, {2, 0}, {2, 1},
	} {
		if r := told(t, l, c[0], c[1]); len(r) != 0 {
			t.Errorf("%d: %d", c, r)
		}
		if r := told(t, nil, c[0], c[1]); len(r) != 0 {
			t.Errorf("%d of none: %d", c, r)
		}
	}
	for _, c := range [][2]int{{0, 1}, {0, 2}, {1, 2}} {
		if r := told(t, l, c[0], c[1]); len(r) == 0 {
			t.Errorf("%d: no rule", c)
		}
	}
}

// P7.2: of a fence, and of what neither loads nor stores, there are no rules.
func TestNoRulesOfOthers(t *testing.T) {
	all := acquire(release(addrs(datas(ctrls(amo(1, 0, 1, 0), 0), 0), 0)))
	all.Pair = 0
	barred := all
	barred.Fence = true
	idle := all
	idle.Load, idle.Store = false, false
	hold(t, []asked{
		{"both move", hart(acquire(amo(0, 0, 1, -1)), all), []int{1, 2, 3, 5, 6, 7, 8, 9, 10, 11}},
		{"b is a fence", hart(acquire(amo(0, 0, 1, -1)), barred), nil},
		{"a is a fence", hart(barred, release(amo(0, 0, 1, 1))), nil},
		{"a is a plain fence", hart(fence(0, 3, 3), all), nil},
		{"b is a plain fence", hart(all, fence(0, 3, 3)), nil},
		{"b does nothing", hart(acquire(amo(0, 0, 1, -1)), idle), nil},
		{"a does nothing", hart(idle, release(amo(0, 0, 1, 1))), nil},
		{"both do nothing", hart(idle, idle), nil},
	})
}

// P7.2, rule 1: b stores, and both overlap.
func TestRule1(t *testing.T) {
	hold(t, []asked{
		{"behind a load", hart(load(0, 0, 8), store(1, 7, 1)), []int{1}},
		{"behind a store", hart(store(0, 0, 8), store(1, 0, 8)), []int{1}},
		{"behind an amo", hart(amo(0, 0, 8), store(1, 4, 8)), []int{1}},
		{"an amo behind a store", hart(store(0, 4, 4), amo(1, 0, 8)), []int{1}},
		{"an sc", hart(store(0, 0, 4), sc(1, 0, 4, 9)), []int{1}},
		{"far between them", hart(load(0, 0, 1), load(2, 9, 1), store(3, 0, 1), store(1, 0, 1)), []int{1}},
		{"b only loads", hart(store(0, 0, 8), load(1, 0, 8)), nil},
		{"b begins behind a", hart(load(0, 0, 4), store(1, 4, 4)), nil},
		{"b ends ahead of a", hart(load(0, 4, 4), store(1, 0, 4)), nil},
		{"b has no bytes", hart(load(0, 0, 4), store(1, 0, 0)), nil},
		{"a has no bytes", hart(load(0, 0, api.MaxMemory+1), store(1, 0, 4)), nil},
		{"b would come round", hart(load(0, 0, 8), store(1, last, 2)), nil},
	})
}

// P7.2, rule 2: both return a byte that nothing between them stores to, by unlike numbers.
func TestRule2(t *testing.T) {
	hold(t, []asked{
		{"by nobody and somebody", hart(load(0, 0, 1, -1), load(1, 0, 1, 5)), []int{2}},
		{"by two", hart(load(0, 0, 1, 4), load(1, 0, 1, 5)), []int{2}},
		{"of one byte of more", hart(load(0, 0, 4, 5, 5, 5, 5), load(1, 2, 2, 5, 6)), []int{2}},
		{"an amo first", hart(amo(0, 0, 1, 4), load(1, 0, 1, 5)), []int{2}},
		{"an amo last", hart(load(0, 0, 1, 4), amo(1, 0, 1, 5)), []int{1, 2}},
		{"by one", hart(load(0, 0, 1, 5), load(1, 0, 1, 5)), nil},
		{"both by nobody", hart(load(0, 0, 2, -1, -1), load(1, 0, 2, -1, -1)), nil},
		{"shifted, each byte by one", hart(load(0, 0, 2, 4, 5), load(1, 1, 2, 5, 4)), nil},
		{"of no common byte", hart(load(0, 0, 2, 4, 4), load(1, 2, 2, 5, 5)), nil},
		{"a only stores", hart(store(0, 0, 1), load(1, 0, 1, 5)), nil},
		{"a only stores, and has From", hart(api.Op{ID: 0, Store: true, Size: 1, From: []int{4}, Pair: -1}, load(1, 0, 1, 5)), nil},
		{"b only stores, and has From", hart(load(0, 0, 1, 4), api.Op{ID: 1, Store: true, Addr: 0, Size: 1, From: []int{5}, Pair: -1}), []int{1}},
		{"a store of that byte between", hart(load(0, 0, 1, 4), store(5, 0, 1), load(1, 0, 1, 5)), nil},
		{"an amo of that byte between", hart(load(0, 0, 1, 4), amo(5, 0, 1, 4), load(1, 0, 1, 5)), nil},
		{"a load of that byte between", hart(load(0, 0, 1, 4), load(6, 0, 1, 4), load(1, 0, 1, 5)), []int{2}},
		{"a store of another byte between", hart(load(0, 0, 1, 4), store(6, 1, 8), load(1, 0, 1, 5)), []int{2}},
		{"a store of that byte ahead of both and behind", hart(load(0, 0, 1, 4), load(1, 0, 1, 5)), []int{2}},
		{"a store of one of two unlike bytes between", hart(load(0, 0, 2, 4, 4), store(6, 0, 1), load(1, 0, 2, 5, 5)), []int{2}},
		{"a store of the one unlike byte of two", hart(load(0, 0, 2, 4, 4), store(6, 1, 1), load(1, 0, 2, 4, 5)), nil},
		{"stores of all bytes, one by one", hart(load(0, 0, 4, 4, 4, 4, 4), store(6, 2, 2), store(7, 0, 1), store(8, 1, 1), load(1, 0, 4, 5, 5, 5, 5)), nil},
		{"stores of all bytes but one", hart(load(0, 0, 4, 4, 4, 4, 4), store(6, 2, 1), store(7, 0, 1), store(8, 0, 2), load(1, 0, 4, 5, 5, 5, 5)), []int{2}},
		{"a store around them", hart(load(0, 9, 2, 4, 4), store(6, 8, 8), load(1, 9, 2, 5, 5)), nil},
		{"a store of no bytes between", hart(load(0, 0, 1, 4), store(6, 0, 0), load(1, 0, 1, 5)), []int{2}},
		{"at the greatest places", hart(load(0, last-1, 2, 4, 4), store(6, last-1, 1), load(1, last, 1, 5)), []int{2}},
		{"at the greatest places, stored to", hart(load(0, last-1, 2, 4, 4), store(6, last, 1), load(1, last, 1, 5)), nil},
		{"at the greatest places, one would come round", hart(load(0, last-1, 2, 4, 4), store(6, last, 2), load(1, last-1, 2, 4, 5)), []int{2}},
	})
	// What stands ahead of a and behind b does not count.
	l := hart(store(6, 0, 1), load(0, 0, 1, 4), load(1, 0, 1, 5), store(7, 0, 1))
	if r := told(t, l, 1, 2); !slices.Equal(r, []int{2}) {
		t.Errorf("stores around: %d", r)
	}
}

// P7.2: what is returned is told by From as far as it goes, and as far as there are bytes.
func TestFromOfOtherLengths(t *testing.T) {
	hold(t, []asked{
		{"a has none", hart(load(0, 0, 2), load(1, 0, 2, 5, 5)), nil},
		{"b has none", hart(load(0, 0, 2, 4, 4), load(1, 0, 2)), nil},
		{"the unlike byte lacks at a", hart(load(0, 0, 2, 5), load(1, 0, 2, 5, 6)), nil},
		{"the unlike byte lacks at b", hart(load(0, 0, 2, 5, 6), load(1, 0, 2, 5)), nil},
		{"the unlike byte is there", hart(load(0, 0, 8, 4, 6), load(1, 1, 4, 5)), []int{2}},
		{"a has more than bytes", hart(load(0, 0, 1, 5, 6), load(1, 0, 2, 5, 5)), nil},
		{"b has more than bytes", hart(load(0, 0, 2, 5, 5), load(1, 0, 1, 5, 6)), nil},
		{"both have more than bytes", hart(load(0, 0, 1, 5, 4), load(1, 0, 1, 5, 6)), nil},
		{"a has no bytes", hart(load(0, 0, 0, 4), load(1, 0, 1, 5)), nil},
		{"a would come round", hart(load(0, last, 2, 4, 4), load(1, last, 1, 5)), nil},
		{"more than bytes at the greatest place", hart(load(0, last, 1, 4, 4), load(1, last, 1, 5, 5)), []int{2}},
		{"a's ID behind b's bytes", hart(amo(0, 0, 1), load(1, 8, 1, 5, 0)), nil},
		{"a's ID at b's last byte", hart(amo(0, 0, 1), load(1, 8, 2, 5, 0)), []int{3}},
		{"a's ID, b has no bytes", hart(amo(0, 0, 1), load(1, 8, 0, 0)), nil},
		{"a's ID, b is too great", hart(amo(0, 0, 1), load(1, 8, api.MaxMemory+1, 0)), nil},
		{"a's ID, b as great as may be", hart(amo(0, 0, 1), load(1, 8, api.MaxMemory, 0)), []int{3}},
		{"an ID between behind b's bytes", hart(load(0, 0, 1), datas(store(7, 4, 1), 0), load(1, 8, 1, 5, 7)), nil},
		{"an ID between at b's last byte", hart(load(0, 0, 1), datas(store(7, 4, 1), 0), load(1, 8, 2, 5, 7)), []int{12}},
	})
}

// P7.2, rule 3: b returns a byte of an amo, or of an sc.
func TestRule3(t *testing.T) {
	hold(t, []asked{
		{"of an amo", hart(amo(0, 0, 1), load(1, 8, 2, -1, 0)), []int{3}},
		{"of an sc", hart(sc(0, 0, 1, 9), load(1, 8, 1, 0)), []int{3}},
		{"of an sc with a Pair below -1", hart(sc(0, 0, 1, -2), load(1, 8, 1, 0)), []int{3}},
		{"of an amo with a Pair", hart(func() api.Op { a := amo(0, 0, 1); a.Pair = 9; return a }(), load(1, 8, 1, 0)), []int{3}},
		{"by an amo", hart(amo(0, 0, 1), amo(1, 8, 1, 0)), []int{3}},
		{"of a plain store", hart(store(0, 0, 1), load(1, 8, 1, 0)), nil},
		{"of a load", hart(load(0, 0, 1), load(1, 8, 1, 0)), nil},
		{"of a load with a Pair", hart(func() api.Op { a := load(0, 0, 1); a.Pair = 9; return a }(), load(1, 8, 1, 0)), nil},
		{"by nobody", hart(amo(0, 0, 1), load(1, 8, 1, -1)), nil},
		{"by another one", hart(amo(0, 0, 1), load(1, 8, 1, 5)), nil},
		{"b only stores", hart(amo(0, 0, 1), api.Op{ID: 1, Store: true, Addr: 8, Size: 1, From: []int{0}, Pair: -1}), nil},
	})
}

// P7.2, rule 4: each kind of what is fenced, and each fence.
func TestRule4(t *testing.T) {
	type kind struct {
		bits int
		op   func(id int, at uint64) api.Op
	}
	kinds := []kind{
		{2, func(id int, at uint64) api.Op { return load(id, at, 4, -1, -1, -1, -1) }},
		{1, func(id int, at uint64) api.Op { return store(id, at, 4) }},
		{3, func(id int, at uint64) api.Op { return amo(id, at, 4, -1, -1, -1, -1) }},
	}
	for _, a := range kinds {
		for _, b := range kinds {
			for pred := range 16 {
				for succ := range 16 {
					l := hart(a.op(0, 0), fence(2, pred, succ), b.op(1, 8))
					holds := pred&a.bits > 0 && succ&b.bits > 0
					if r := told(t, l, 0, 2); !holds && len(r) != 0 || holds && !slices.Equal(r, []int{4}) {
						t.Errorf("%d, fence %d %d, %d: %d", a.bits, pred, succ, b.bits, r)
					}
				}
			}
		}
	}
	a, b := store(0, 0, 4), load(1, 8, 4)
	hold(t, []asked{
		{"no fence", hart(a, store(2, 16, 4), b), nil},
		{"half of each of two fences", hart(a, fence(2, 1, 1), fence(3, 2, 2), b), nil},
		{"the second of two fences", hart(a, fence(2, 2, 2), fence(3, 1, 2), b), []int{4}},
		{"Pred and Succ of what is no fence", hart(a, api.Op{ID: 2, Load: true, Addr: 16, Size: 1, Pred: 3, Succ: 3, Pair: -1}, b), nil},
	})
	for _, c := range [][2]int{{0, 1}, {2, 3}} {
		if r := told(t, hart(a, b, fence(2, 3, 3), store(3, 0, 4), load(4, 16, 4)), c[0], c[1]); len(r) != 0 {
			t.Errorf("a fence that is not between them: %d", r)
		}
	}
}

// P7.2, rules 5 to 7: acquire and release, of each of both.
func TestRules5To7(t *testing.T) {
	for n := range 16 {
		for _, ops := range [][]api.Op{
			{load(0, 0, 1, -1), load(1, 8, 1, -1)}, {store(0, 0, 1), load(1, 8, 1)}, {amo(0, 0, 1), store(1, 8, 1)}, {sc(0, 0, 1, 9), amo(1, 8, 1)},
		} {
			a, b := ops[0], ops[1]
			a.Aq, a.Rl, b.Aq, b.Rl = n&1 > 0, n&2 > 0, n&4 > 0, n&8 > 0
			var want []int
			if n&1 > 0 {
				want = append(want, 5)
			}
			if n&8 > 0 {
				want = append(want, 6)
			}
			if n&3 > 0 && n&12 > 0 {
				want = append(want, 7)
			}
			if r := told(t, hart(a, b), 0, 1); !slices.Equal(r, want) {
				t.Errorf("acquire %t %t, release %t %t: %d, not %d", a.Aq, b.Aq, a.Rl, b.Rl, r, want)
			}
		}
	}
	hold(t, []asked{
		{"of one between them", hart(load(0, 0, 1), acquire(release(amo(2, 16, 1))), load(1, 8, 1)), nil},
		{"of a fence between them", hart(load(0, 0, 1), acquire(release(fence(2, 0, 0))), load(1, 8, 1)), nil},
	})
}

// P7.2, rule 8: an sc and its lr.
func TestRule8(t *testing.T) {
	paired := load(1, 8, 1)
	paired.Pair = 0
	hold(t, []asked{
		{"an sc and its lr", hart(load(0, 0, 1), sc(1, 8, 1, 0)), []int{8}},
		{"something between", hart(load(0, 0, 1), store(2, 4, 1), load(3, 4, 1), sc(1, 8, 1, 0)), []int{8}},
		{"another one's", hart(load(0, 0, 1), sc(1, 8, 1, 7)), nil},
		{"nobody's", hart(load(0, 0, 1), sc(1, 8, 1, -1)), nil},
		{"a load with a Pair", hart(load(0, 0, 1), paired), []int{8}},
		{"a Pair of a", hart(paired, store(0, 0, 1)), nil},
		{"a store that is a Pair", hart(store(0, 0, 1), sc(1, 8, 1, 0)), []int{8}},
	})
}

// P7.2, rules 9 to 11: what b hangs on.
func TestRules9To11(t *testing.T) {
	a := load(4, 0, 1)
	for _, b := range []api.Op{load(1, 8, 1), store(1, 8, 1), amo(1, 8, 1)} {
		var ctrl []int
		if b.Store {
			ctrl = []int{11}
		}
		hold(t, []asked{
			{"its address", hart(a, addrs(b, 4)), []int{9}},
			{"its address, among others", hart(a, addrs(b, 2, 3, 4)), []int{9}},
			{"its address, on others", hart(a, addrs(b, 2, 3)), nil},
			{"its data", hart(a, datas(b, 4)), []int{10}},
			{"its data, among others", hart(a, datas(b, 4, 3)), []int{10}},
			{"its data, on others", hart(a, datas(b, 0)), nil},
			{"its being there", hart(a, ctrls(b, 4)), ctrl},
			{"its being there, among others", hart(a, ctrls(b, 0, 4, 9)), ctrl},
			{"its being there, on others", hart(a, ctrls(b, 0)), nil},
			{"a hangs on b", hart(addrs(datas(ctrls(a, 1), 1), 1), b), nil},
			{"all", hart(a, addrs(datas(ctrls(b, 4), 4), 4)), append([]int{9, 10}, ctrl...)},
			{"a store, its address", hart(store(4, 0, 1), addrs(b, 4)), []int{9}},
		})
	}
}

// P7.2, rule 12: b returns what a store between them has, which hangs on a.
func TestRule12(t *testing.T) {
	a, m, b := load(0, 0, 1), store(7, 4, 1), load(1, 8, 2, -1, 7)
	hold(t, []asked{
		{"its data hangs on a", hart(a, datas(m, 0), b), []int{12}},
		{"its address hangs on a", hart(a, addrs(m, 0), b), []int{12}},
		{"both do", hart(a, addrs(datas(m, 5, 0), 6, 0), b), []int{12}},
		{"an amo", hart(a, datas(amo(7, 4, 1), 0), b), []int{12}},
		{"the second of two stores", hart(a, datas(store(6, 4, 1), 0), datas(m, 0), b), []int{12}},
		{"others between", hart(a, datas(m, 0), load(3, 16, 1), b), []int{12}},
		{"b is an amo", hart(a, datas(m, 0), amo(1, 8, 1, 7)), []int{12}},
		{"b is an amo, the address hangs on a", hart(a, addrs(m, 0), amo(1, 8, 1, 7)), []int{12, 13}},
		{"a is a store", hart(store(0, 0, 1), datas(m, 0), b), []int{12}},
		{"it does not store", hart(a, datas(load(7, 4, 1), 0), b), nil},
		{"it is a fence", hart(a, addrs(datas(fence(7, 0, 0), 0), 0), b), nil},
		{"it hangs on others", hart(a, addrs(datas(m, 5), 6), b), nil},
		{"its being there hangs on a", hart(a, ctrls(m, 0), b), nil},
		{"b returns others'", hart(a, datas(m, 0), load(1, 8, 2, -1, 6)), nil},
		{"b only stores", hart(a, datas(m, 0), api.Op{ID: 1, Store: true, Addr: 8, Size: 1, From: []int{7}, Pair: -1}), nil},
		{"one hangs on a, b returns the other's", hart(a, datas(store(6, 4, 1), 0), m, b), nil},
	})
	l := hart(datas(m, 0), a, b, datas(m, 0))
	if r := told(t, l, 1, 2); len(r) != 0 {
		t.Errorf("stores that are not between them: %d", r)
	}
}

// P7.2, rule 13: b stores, and something between them has an address that hangs on a.
func TestRule13(t *testing.T) {
	a, b := load(0, 0, 1), store(1, 8, 1)
	nothing := addrs(api.Op{ID: 7, Pair: -1}, 0)
	hold(t, []asked{
		{"a load", hart(a, addrs(load(7, 4, 1), 0), b), []int{13}},
		{"a store", hart(a, addrs(store(7, 4, 1), 5, 0), b), []int{13}},
		{"the first of two", hart(a, addrs(amo(7, 4, 1), 0), load(6, 4, 1), b), []int{13}},
		{"what neither loads nor stores, and is no fence", hart(a, nothing, b), []int{13}},
		{"b is an amo", hart(a, addrs(load(7, 4, 1), 0), amo(1, 8, 1)), []int{13}},
		{"a is a store", hart(store(0, 0, 1), addrs(load(7, 4, 1), 0), b), []int{13}},
		{"b only loads", hart(a, addrs(load(7, 4, 1), 0), load(1, 8, 1)), nil},
		{"a fence", hart(a, addrs(fence(7, 0, 0), 0), b), nil},
		{"its address hangs on others", hart(a, addrs(load(7, 4, 1), 5), b), nil},
		{"its data hangs on a", hart(a, datas(store(7, 4, 1), 0), b), nil},
		{"its being there hangs on a", hart(a, ctrls(store(7, 4, 1), 0), b), nil},
	})
	l := hart(addrs(load(7, 4, 1), 0), a, b, addrs(load(6, 4, 1), 0))
	if r := told(t, l, 1, 2); len(r) != 0 {
		t.Errorf("addresses that are not between them: %d", r)
	}
}

// P7.2: all thirteen together, and each number by itself as the first one.
func TestAllRules(t *testing.T) {
	b := acquire(release(addrs(datas(ctrls(amo(1, 0, 2, 0, 7), 0), 0), 0)))
	b.Pair = 0
	l := hart(acquire(amo(0, 0, 2, -1, 5)), addrs(store(7, 8, 1), 0), fence(8, 3, 3), b)
	all := []int{1, 2, 3, 4, 5, 6, 7, 8, 9, 10, 11, 12, 13}
	hold(t, []asked{{"all", l, all}})
	// The rules go one behind the other, the lowest ones first.
	for k, change := range []func(l []api.Op){
		func(l []api.Op) { l[0].Addr = 16 }, // 1 and 2
		func(l []api.Op) {},
		func(l []api.Op) { l[3].From = []int{-1, 7} },
		func(l []api.Op) { l[2].Pred = 0 },
		func(l []api.Op) { l[0].Aq, l[0].Rl = false, true },
		func(l []api.Op) { l[3].Rl = false },
		func(l []api.Op) { l[0].Rl = false },
		func(l []api.Op) { l[3].Pair = -1 },
		func(l []api.Op) { l[3].Addrs = nil },
		func(l []api.Op) { l[3].Datas = nil },
		func(l []api.Op) { l[3].Ctrls = nil },
		func(l []api.Op) { l[3].From = nil },
		func(l []api.Op) { l[1].Addrs = nil },
	} {
		change(l)
		want := all[max(2, k+1):]
		if r := told(t, l, 0, 3); !slices.Equal(r, want) {
			t.Errorf("without the first %d: %d, not %d", max(2, k+1), r, want)
		}
	}
}

// P7.2: loads of as many bytes as there may be, with many long stores between them.
func TestLongLoads(t *testing.T) {
	const n = api.MaxMemory
	a, b := make([]int, n), make([]int, n)
	b[n-1] = 1
	l := hart(load(0, 64, n, a...), load(1, 64, n, b...))
	hold(t, []asked{{"the last byte", l, []int{2}}})
	for k := range 400 {
		l = slices.Insert(l, 1, store(k+2, uint64(k), n-512))
	}
	hold(t, []asked{{"the last byte, with long stores ahead of it", l, []int{2}}})
	l = slices.Insert(l, 1, store(500, n+63, 1))
	hold(t, []asked{{"the last byte, stored to", l, nil}})
	l[0].From, l[len(l)-1].Size = l[0].From[:n-1], n+1
	hold(t, []asked{{"one byte too many", l, nil}})
}

// P7.2: any operations, held against the rules as they are written down.
func TestRulesAsTheDocumentTellsThem(t *testing.T) {
	r := row(3)
	met := [14]int{}
	for range 30000 {
		l := r.somes()
		for i := -1; i <= len(l); i++ {
			for j := -1; j <= len(l); j++ {
				want := plainly(l, i, j)
				if got := told(t, l, i, j); !slices.Equal(got, want) {
					t.Fatalf("%d and %d of %+v: %d, not %d", i, j, l, got, want)
				}
				for _, n := range want {
					met[n]++
				}
			}
		}
	}
	for n := 1; n <= 13; n++ {
		if met[n] < 100 {
			t.Errorf("rule %d was met %d times", n, met[n])
		}
	}
}

// P7.4: more fences leave all rules that held.
func TestMoreFences(t *testing.T) {
	r := row(5)
	for range 20000 {
		l := r.somes()
		j := len(l) - 1
		was := told(t, l, 0, j)
		more := slices.Insert(slices.Clone(l), 1+r.next(j), fence(r.next(9), r.next(4), r.next(4)))
		now := told(t, more, 0, j+1)
		for _, n := range was {
			if !slices.Contains(now, n) {
				t.Fatalf("%+v: %d, with a fence more %d", l, was, now)
			}
		}
	}
}

// P7.5: behind a fence of 3 and 3 all that is ahead stands ahead.
func TestFenced(t *testing.T) {
	r := row(7)
	for range 20000 {
		l := slices.Concat(r.somes(), hart(fence(99, 3, 3)), r.somes())
		f := slices.IndexFunc(l, func(a api.Op) bool { return a.ID == 99 })
		for i := range f {
			for j := f + 1; j < len(l); j++ {
				moves := !l[i].Fence && !l[j].Fence && (l[i].Load || l[i].Store) && (l[j].Load || l[j].Store)
				if r := told(t, l, i, j); slices.Contains(r, 4) != moves {
					t.Fatalf("%d and %d of %+v: %d", i, j, l, r)
				}
			}
		}
	}
}

// P7.6: what stands ahead of both, or behind both, does not count.
func TestOwn(t *testing.T) {
	r := row(9)
	for range 20000 {
		l, ahead, behind := r.somes(), r.somes(), r.somes()
		i, j := r.next(len(l)), r.next(len(l))
		was := told(t, l, i, j)
		now := told(t, slices.Concat(ahead, l, behind), i+len(ahead), j+len(ahead))
		if !slices.Equal(was, now) {
			t.Fatalf("%d and %d of %+v: %d, among others %d", i, j, l, was, now)
		}
		if i < j {
			if now := told(t, l[i:j+1], 0, j-i); !slices.Equal(was, now) {
				t.Fatalf("%d and %d of %+v: %d, alone %d", i, j, l, was, now)
			}
		}
	}
}

// What is handed in is left as it is, and what is told is the caller's own.
func TestRulesLeaveAllAlone(t *testing.T) {
	r := row(11)
	for range 2000 {
		l := r.somes()
		was := fmt.Sprintf("%+v", l)
		told := order.Rules(l, 0, len(l)-1)
		for k := range told {
			told[k] = -9
		}
		order.Good(l)
		order.Overlap(l[0], l[1])
		if fmt.Sprintf("%+v", l) != was {
			t.Fatalf("%+v, not %s", l, was)
		}
		if len(told) > 0 && reflect.DeepEqual(order.Rules(l, 0, len(l)-1), told) {
			t.Fatal("an answer is shared")
		}
	}
}
