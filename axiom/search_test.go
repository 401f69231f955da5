package axiom_test

import (
	"math"
	"slices"
	"testing"

	"postbag/api"
	"postbag/axiom"
)

// searched is harts, and whether an order of all memory is allowed.
type searched struct {
	name string
	h    [][]api.Op
	want bool
}

func on(a api.Op, ids ...int) api.Op {
	if a.Store {
		a.Datas = ids
	} else {
		a.Addrs = ids
	}
	return a
}

// crosswise is what two harts do, with what stands between, of each.
func crosswise(a, b, c, d api.Op, between ...api.Op) [][]api.Op {
	if len(between) == 0 {
		return harts(hart(a, b), hart(c, d))
	}
	return harts(hart(a, between[0], b), hart(c, between[1], d))
}

// Example 1.
func TestExample(t *testing.T) {
	a, b, c, d := store(0, 0, 8, 1), load(1, 8, 0, slices.Repeat([]int{-1}, 8)...), store(2, 8, 8, 1), load(3, 0, 0, slices.Repeat([]int{-1}, 8)...)
	h := crosswise(a, b, c, d)
	// Six orders begin with 0, and three with 1 and let a load have what it has not.
	if gmo, ok := axiom.Search(h, 10); !ok || !slices.Equal(gmo, order(1, 2, 3, 0)) {
		t.Errorf("%d and %t", gmo, ok)
	}
	if gmo, ok := axiom.Search(h, 9); ok || len(gmo) != 0 {
		t.Errorf("of nine %d and %t", gmo, ok)
	}
	if w := axiom.Check(h, order(1, 3, 0, 2)); w != (axiom.Wrong{}) {
		t.Errorf("both loads ahead: %+v", w)
	}
	if gmo, ok := axiom.Search(crosswise(a, b, c, d, fence(4, 3, 3), fence(5, 3, 3)), 24); ok || len(gmo) != 0 {
		t.Errorf("with fences %d and %t", gmo, ok)
	}
}

// P8.3, P8.5: small programs of which it is known whether they may come to that.
func TestSearchOfKnownOnes(t *testing.T) {
	one := func(at uint64) api.Op { return store(int(at), at, 1, 1) } // ID 0 and 1: the places' stores
	has0 := func(id int, at uint64) api.Op { return load(id, at, 0, -1) }
	has1 := func(id int, at uint64) api.Op { return load(id, at, 1, int(at)) }
	acquire := func(a api.Op) api.Op { a.Aq = true; return a }
	release := func(a api.Op) api.Op { a.Rl = true; return a }
	other := store(9, 0, 1, 2)
	broken := load(2, 0, 0, -1)
	for _, c := range []searched{
		{"two stores, two loads", crosswise(one(0), one(1), has1(2, 1), has0(3, 0)), true},
		{"fenced", crosswise(one(0), one(1), has1(2, 1), has0(3, 0), fence(4, 1, 1), fence(5, 2, 2)), false},
		{"fenced, and all was seen", crosswise(one(0), one(1), has1(2, 1), has1(3, 0), fence(4, 1, 1), fence(5, 2, 2)), true},
		{"fenced, and nothing was seen", crosswise(one(0), one(1), has0(2, 1), has0(3, 0), fence(4, 1, 1), fence(5, 2, 2)), true},
		{"fenced by others", crosswise(one(0), one(1), has1(2, 1), has0(3, 0), fence(4, 2, 3), fence(5, 1, 3)), true},
		{"one side fenced", crosswise(one(0), one(1), has1(2, 1), has0(3, 0), fence(4, 1, 1), fence(5, 0, 0)), true},
		{"fenced, and hanging", crosswise(one(0), one(1), has1(2, 1), on(has0(3, 0), 2), fence(4, 1, 1), fence(5, 0, 0)), false},
		{"release and acquire", crosswise(one(0), release(one(1)), acquire(has1(2, 1)), has0(3, 0)), false},
		{"release alone", crosswise(one(0), release(one(1)), has1(2, 1), has0(3, 0)), true},
		{"stores ahead of loads", crosswise(one(0), has0(2, 1), one(1), has0(3, 0)), true},
		{"stores ahead of loads, fenced", crosswise(one(0), has0(2, 1), one(1), has0(3, 0), fence(4, 1, 2), fence(5, 1, 2)), false},
		{"loads ahead of stores", crosswise(has1(2, 0), one(1), has1(3, 1), one(0)), true},
		{"loads ahead of stores, hanging", crosswise(has1(2, 0), on(one(1), 2), has1(3, 1), on(one(0), 3)), false},
		{"loads of one place", harts(hart(one(0)), hart(has1(2, 0), has0(3, 0))), false},
		{"loads of one place, the other way", harts(hart(one(0)), hart(has0(2, 0), has1(3, 0))), true},
		{"its own store, not yet seen", crosswise(one(0), has1(2, 0), one(1), has1(3, 1)), true},
		{"its own store, and not the other's", harts(hart(one(0), has1(2, 0), has0(3, 1)), hart(one(1), has1(4, 1), has0(5, 0))), true},
		{"its own store not seen", harts(hart(one(0), has0(2, 0))), false},
		{"a later store seen", harts(hart(has1(2, 0), one(0))), false},
		{"two amos of one value", harts(hart(amo(0, 0, 0, 1, -1)), hart(amo(1, 0, 0, 1, -1))), false},
		{"one amo behind the other", harts(hart(amo(0, 0, 1, 2, 1)), hart(amo(1, 0, 0, 1, -1))), true},
		{"two harts' lr and sc", harts(hart(broken, sc(3, 0, 1, 1, 2)), hart(load(4, 0, 0, -1), sc(5, 0, 1, 1, 4))), false},
		{"two harts' lr and sc, the second one having the first one's", harts(hart(broken, sc(3, 0, 1, 1, 2)), hart(load(4, 0, 1, 3), sc(5, 0, 1, 1, 4))), true},
		{"a store ahead of the sc seen behind", harts(hart(broken, sc(3, 0, 1, 1, 2), load(7, 0, 2, 9)), hart(other)), true},
		{"a store between the lr and the sc", harts(hart(broken, sc(3, 0, 1, 1, 2)), hart(other, load(7, 0, 1, 3))), false},
		{"four harts, two of them unlike", harts(hart(one(0)), hart(one(1)), hart(has1(2, 0), fence(6, 2, 2), has0(3, 1)), hart(has1(4, 1), fence(7, 2, 2), has0(5, 0))), false},
		{"four harts, without fences", harts(hart(one(0)), hart(one(1)), hart(has1(2, 0), has0(3, 1)), hart(has1(4, 1), has0(5, 0))), true},
		{"no harts", nil, true},
		{"harts without operations", harts(nil, hart()), true},
		{"fences alone", harts(hart(fence(0, 3, 3), fence(1, 3, 3))), true},
	} {
		gmo, ok := axiom.Search(c.h, math.MaxInt)
		if ok != c.want || !ok && len(gmo) != 0 || ok && axiom.Check(c.h, gmo) != (axiom.Wrong{}) {
			t.Errorf("%s: %d and %t", c.name, gmo, ok)
		}
	}
}

// P8.3: the first order, those with lesser numbers ahead, and how many are tried.
func TestSearchTellsTheFirst(t *testing.T) {
	seen := harts(hart(load(0, 0, 1, 1)), hart(store(1, 0, 1, 1)))
	five := harts(hart(store(9, 0, 1, 0)), hart(store(3, 8, 1, 0), store(700, 16, 1, 0)), hart(store(math.MaxInt, 24, 1, 0), store(0, 32, 1, 0)))
	// Of 4 and its hart's others just one may stand first: the orders that are ruled out are not counted.
	ruled := harts(hart(store(4, 0, 1, 0), store(2, 0, 1, 0), store(0, 0, 1, 0)))
	half := harts(hart(store(4, 0, 1, 1), store(2, 0, 1, 2)), hart(load(3, 0, 2, 2)))
	never := harts(hart(load(0, 0, 9, -1)), hart(load(1, 0, 0, -1)), hart(load(2, 0, 0, -1)))
	for _, c := range []struct {
		name string
		h    [][]api.Op
		most int
		want []int
		ok   bool
	}{
		{"most below 0", seen, -1, nil, false},
		{"the least most", seen, math.MinInt, nil, false},
		{"most 0", seen, 0, nil, false},
		{"one too few", seen, 1, nil, false},
		{"just as many", seen, 2, order(1, 0), true},
		{"more", seen, 3, order(1, 0), true},
		{"the greatest most", seen, math.MaxInt, order(1, 0), true},
		{"the first one", five, 1, order(0, 3, 9, 700, math.MaxInt), true},
		{"not even the first one", five, 0, nil, false},
		{"one alone that is not ruled out", ruled, 1, order(4, 2, 0), true},
		{"not even that", ruled, 0, nil, false},
		{"the second one of three, one too few", half, 1, nil, false}, // 3 4 2 is the first one
		{"the second one of three, just as many", half, 2, order(4, 2, 3), true},
		{"none", never, 6, nil, false},
		{"none at all", never, math.MaxInt, nil, false},
		{"no harts", nil, 1, nil, true},
		{"no harts, and most 0", nil, 0, nil, false},
		{"no harts, and most below 0", nil, -1, nil, false},
		{"fences alone", harts(hart(fence(0, 3, 3))), 1, nil, true},
	} {
		if gmo, ok := axiom.Search(c.h, c.most); ok != c.ok || !slices.Equal(gmo, c.want) {
			t.Errorf("%s: %d and %t, not %d and %t", c.name, gmo, ok, c.want, c.ok)
		}
	}
}

// P8.3: at most 10 that load or store; fences don't count.
func TestSearchOfTen(t *testing.T) {
	for n := range 14 {
		var apart, one [][]api.Op
		var want, back []int
		one = harts(nil)
		for k := range n {
			apart = append(apart, hart(fence(100+k, 3, 3), store(k, uint64(k), 1, 0), fence(200+k, 3, 3)))
			one[0] = append(one[0], store(n-k, 5, 1, 0), fence(100+k, 0, 0))
			want = append(want, k)
			back = append(back, n-k)
		}
		if n > 10 {
			want, back = nil, nil
		}
		if gmo, ok := axiom.Search(apart, 1); ok != (n <= 10) || !slices.Equal(gmo, want) {
			t.Errorf("%d harts: %d and %t", n, gmo, ok)
		}
		if gmo, ok := axiom.Search(one, math.MaxInt); ok != (n <= 10) || !slices.Equal(gmo, back) {
			t.Errorf("%d of one hart: %d and %t", n, gmo, ok)
		}
	}
}

// P8.3: of ten loads on ten harts all orders are tried, if most lets them be.
func TestSearchOfAllOrdersOfTen(t *testing.T) {
	var h [][]api.Op
	for k := range 9 {
		h = append(h, hart(load(k+1, 8, 0, -1)))
	}
	h = append(h, hart(store(0, 8, 1, 0)))
	// All loads have what was there ahead of the store: though it has the least number, it stands last.
	if gmo, ok := axiom.Search(h, math.MaxInt); !ok || !slices.Equal(gmo, order(1, 2, 3, 4, 5, 6, 7, 8, 9, 0)) {
		t.Errorf("%d and %t", gmo, ok)
	}
	// 9! orders begin with 0.
	most := 1
	for n := 2; n <= 9; n++ {
		most *= n
	}
	if gmo, ok := axiom.Search(h, most); ok {
		t.Errorf("of too few: %d", gmo)
	}
	h[4][0].Value = 1
	if gmo, ok := axiom.Search(h, math.MaxInt); ok {
		t.Errorf("of none: %d", gmo)
	}
}

// P8.3: lists and IDs that may not be.
func TestSearchOfListsThatMayNotBe(t *testing.T) {
	for _, h := range [][][]api.Op{
		harts(hart(store(0, 0, 3, 0))),
		harts(hart(store(0, 0, 1, 0)), hart(store(-1, 0, 1, 0))),
		harts(hart(api.Op{ID: 0, Pair: -1})),
		harts(hart(load(0, 0, 0))),
		harts(hart(sc(0, 0, 1, 0, 1)), hart(load(1, 0, 0, -1))),
		harts(hart(store(0, 0, 1, 0), store(0, 0, 1, 0))),
		harts(hart(store(0, 0, 1, 0)), hart(store(0, 0, 1, 0))),
		harts(hart(fence(0, 3, 3)), hart(store(0, 0, 1, 0))),
		harts(hart(fence(0, 3, 3), fence(0, 3, 3))),
		harts(hart(store(0, last, 2, 0))),
	} {
		if gmo, ok := axiom.Search(h, math.MaxInt); ok || len(gmo) != 0 {
			t.Errorf("%+v: %d and %t", h, gmo, ok)
		}
	}
}

// P8.3, P8.5: any harts, held against a search through all orders of all IDs.
func TestSearchAsTheDocumentTellsIt(t *testing.T) {
	r := row(8)
	none, few := 0, 0
	for range 3000 {
		h, gmo := r.somes(1 + r.next(6))
		fill(h, r.shuffled(gmo))
		r.spoil(h, nil)
		if !listed(h, gmo) {
			continue
		}
		for _, most := range []int{0, 1, 2, 3, 10, 720} {
			want, found := search(h, gmo, most)
			got, ok := axiom.Search(h, most)
			if ok != found || !slices.Equal(got, want) {
				t.Fatalf("%+v, most %d: %d and %t, not %d and %t", h, most, got, ok, want, found)
			}
			if ok && axiom.Check(h, got) != (axiom.Wrong{}) {
				t.Fatalf("%+v: %d", h, got)
			}
			if most == 720 && !ok {
				none++
			}
			if most < 720 && most > 0 && !ok {
				few++
			}
		}
	}
	if none < 100 || few < 300 {
		t.Errorf("%d have no order, %d too few", none, few)
	}
}
