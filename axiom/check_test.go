package axiom_test

import (
	"fmt"
	"math"
	"slices"
	"testing"

	"postbag/api"
	"postbag/axiom"
)

// ordered is what is wrong with an order that is none.
var ordered = axiom.Wrong{Kind: axiom.OrderWrong}

// checked is harts and an order, and what is wrong with them.
type checked struct {
	name string
	h    [][]api.Op
	gmo  []int
	want axiom.Wrong
}

func tell(t *testing.T, l []checked) {
	t.Helper()
	for _, c := range l {
		if w := axiom.Check(c.h, c.gmo); w != c.want {
			t.Errorf("%s, %d: %+v, not %+v", c.name, c.gmo, w, c.want)
		}
	}
}

// P8.2: harts with which nothing is wrong.
func TestCheckFindsNothing(t *testing.T) {
	tell(t, []checked{
		{"no harts", nil, nil, axiom.Wrong{}},
		{"harts without operations", harts(nil, hart(), nil), order(), axiom.Wrong{}},
		{"fences alone", harts(hart(fence(0, 3, 3)), hart(fence(1, 3, 3))), nil, axiom.Wrong{}},
		{"one load", harts(hart(load(5, 0, 0, -1, -1))), order(5), axiom.Wrong{}},
		{"one store", harts(hart(store(math.MaxInt, 0, 8, 5))), order(math.MaxInt), axiom.Wrong{}},
		{"near the end", harts(hart(store(0, last, 1, 7), load(1, last-1, 0x700, -1, 0), load(2, 0, 0, -1))), order(2, 0, 1), axiom.Wrong{}},
		{"what a store has of a number's higher bytes is not stored", harts(hart(store(0, 0, 2, 0x99998877), load(1, 0, 0x8877, 0, 0, -1, -1))), order(1, 0), axiom.Wrong{}},
		{"a chain of amos", harts(hart(amo(0, 0, 0, 1, -1), amo(1, 0, 2, 3, 2)), hart(amo(2, 0, 1, 2, 0))), order(0, 2, 1), axiom.Wrong{}},
	})
}

// P8.2: a load that has bytes of several stores, of its own hart and of others.
func TestCheckOfBytes(t *testing.T) {
	const v = 0x58_1716_44_48_47_46_45
	h := func(v uint64, from ...int) [][]api.Op {
		return harts(
			hart(store(11, 13, 2, 0xff1716), load(12, 8, v, from...), store(13, 8, 8, 0)),
			hart(store(20, 4, 8, 0x4847464500000000), store(21, 15, 8, 0x58), store(22, 12, 1, 0x44)),
		)
	}
	from := []int{20, 20, 20, 20, 22, 11, 11, 21}
	gmo := order(20, 21, 22, 12, 11, 13)
	wrong := axiom.Wrong{Kind: axiom.ValueWrong, A: 12}
	tell(t, []checked{{"all bytes", h(v, from...), gmo, axiom.Wrong{}}})
	for k := range 8 {
		other := slices.Clone(from)
		other[k] = 13
		tell(t, []checked{
			{"a byte by another one", h(v, other...), gmo, wrong},
			{"a bit unlike", h(v^1<<(8*k), from...), gmo, wrong},
			{"the highest bit of a byte unlike", h(v^0x80<<(8*k), from...), gmo, wrong},
		})
		other[k] = -1
		tell(t, []checked{{"a byte by nobody", h(v, other...), gmo, wrong}})
	}
	tell(t, []checked{
		{"one of them behind", h(v, from...), order(20, 22, 12, 21, 11, 13), wrong},
		{"nobody wrote that, and it is 0", h(v&^(0xff<<56), 20, 20, 20, 20, 22, 11, 11, -1), order(20, 22, 12, 21, 11, 13), axiom.Wrong{}},
		{"nobody wrote that, and it is not", h(v, 20, 20, 20, 20, 22, 11, 11, -1), order(20, 22, 12, 21, 11, 13), wrong},
	})
}

// P8.2: each list that may not be, IDs that are alike, and orders that are not of just what loads or stores.
func TestCheckOfOrdersThatAreNone(t *testing.T) {
	odd := store(2, 0, 3, 0)
	h := harts(hart(store(0, 0, 1, 0), fence(7, 3, 3)), nil, hart(load(1, 0, 0, 0)))
	l := []checked{
		{"all in order", h, order(0, 1), axiom.Wrong{}},
		{"an odd size", harts(hart(odd)), order(2), ordered},
		{"an odd size in the second hart", harts(hart(store(0, 0, 1, 0)), hart(odd)), order(0, 2), ordered},
		{"neither loads nor stores", harts(hart(api.Op{ID: 0, Size: 1, Pair: -1})), order(0), ordered},
		{"neither loads nor stores, and not in the order", harts(hart(api.Op{ID: 0, Size: 1, Pair: -1})), nil, ordered},
		{"a Pair of another hart", harts(hart(load(0, 0, 0, -1)), hart(sc(1, 0, 1, 0, 0))), order(0, 1), ordered},
		{"a load with From of too many", harts(hart(api.Op{ID: 0, Load: true, Size: 1, From: []int{-1, -1}, Pair: -1})), order(0), ordered},
		{"an ID below 0", harts(hart(store(-1, 0, 1, 0))), order(-1), ordered},
		{"IDs alike in a hart", harts(hart(store(0, 0, 1, 0), store(0, 8, 1, 0))), order(0), ordered},
		{"IDs alike in a hart, both in the order", harts(hart(store(0, 0, 1, 0), store(0, 8, 1, 0))), order(0, 0), ordered},
		{"IDs alike of two harts", harts(hart(store(0, 0, 1, 0)), hart(store(0, 8, 1, 0))), order(0), ordered},
		{"IDs alike of two harts, both in the order", harts(hart(store(0, 0, 1, 0)), hart(store(0, 8, 1, 0))), order(0, 0), ordered},
		{"IDs alike of fences", harts(hart(fence(0, 3, 3)), hart(fence(0, 3, 3))), nil, ordered},
		{"IDs alike of a store and a fence", harts(hart(store(0, 0, 1, 0)), nil, hart(fence(0, 3, 3))), order(0), ordered},
	}
	for _, gmo := range [][]int{
		nil, {}, {0}, {1}, {7}, {0, 0}, {1, 1}, {0, 7}, {0, 1, 7}, {7, 0, 1}, {0, 1, 0}, {0, 1, 1}, {0, 0, 1}, {0, 1, 2}, {0, 2}, {-1, 0, 1}, {0, -1}, {0, math.MaxInt},
		{math.MinInt, 1}, {0, 1, 0, 1},
	} {
		l = append(l, checked{"another order", h, gmo, ordered})
	}
	for _, gmo := range [][]int{{0}, {-1}, {math.MinInt}} {
		l = append(l, checked{"of no harts", nil, gmo, ordered}, checked{"of empty harts", harts(nil, nil), gmo, ordered})
	}
	tell(t, l)
}

// P8.2: an order against each of the rules.
func TestCheckOfRules(t *testing.T) {
	a := load(5, 0, 0, -1)
	hangs := func(b api.Op, addrs, datas, ctrls []int) api.Op {
		b.Addrs, b.Datas, b.Ctrls = addrs, datas, ctrls
		return b
	}
	marked := func(b api.Op, aq, rl bool) api.Op {
		b.Aq, b.Rl = aq, rl
		return b
	}
	on := []int{5}
	for _, c := range []struct {
		rule int
		l    []api.Op
	}{
		{1, hart(store(5, 0, 8, 1), store(3, 7, 1, 1))},
		{2, hart(amo(5, 0, 0, 0, -1), load(3, 0, 0, 5))},
		{3, hart(amo(5, 0, 0, 0, -1), load(3, 8, 0, 5))}, // that it can't have that is asked later
		{3, hart(load(9, 0, 0, -1), sc(5, 0, 1, 0, 9), load(3, 0, 0, 5))},
		{4, hart(a, fence(9, 2, 1), store(3, 8, 1, 1))},
		{5, hart(marked(a, true, false), store(3, 8, 1, 1))},
		{6, hart(a, marked(store(3, 8, 1, 1), false, true))},
		{7, hart(marked(a, false, true), marked(store(3, 8, 1, 1), true, false))},
		{8, hart(a, sc(3, 8, 1, 1, 5))},
		{9, hart(a, hangs(store(3, 8, 1, 1), on, nil, nil))},
		{10, hart(a, hangs(store(3, 8, 1, 1), nil, on, nil))},
		{11, hart(a, hangs(store(3, 8, 1, 1), nil, nil, on))},
		{12, hart(a, hangs(store(9, 8, 1, 0), nil, on, nil), load(3, 8, 0, 9))},
		{13, hart(a, hangs(load(9, 8, 0, -1), on, nil, nil), store(3, 16, 1, 1))},
	} {
		h := harts(hart(load(1, 99, 0, -1)), c.l)
		gmo := order(3, 5, 1)
		if find(h, 9).Load {
			gmo = order(9, 3, 5, 1)
		}
		if find(h, 9).Store {
			gmo = order(3, 5, 9, 1)
		}
		want := axiom.Wrong{Kind: c.rule, A: 5, B: 3}
		if c.rule == 13 {
			want = axiom.Wrong{Kind: 9, A: 5, B: 9} // the address that hangs on a stands ahead of a, too
			tell(t, []checked{{"rule 13 and 9", h, gmo, want}})
			want, gmo = axiom.Wrong{Kind: 13, A: 5, B: 3}, order(3, 5, 9, 1)
		}
		tell(t, []checked{{"against", h, gmo, want}})
		slices.Reverse(gmo)
		if w := axiom.Check(h, gmo); w.B == 3 && w.A == 5 {
			t.Errorf("rule %d, in order: %+v", c.rule, w)
		}
	}
	// rule 2: both have what stands last, so somebody stored between them
	h := harts(hart(store(0, 0, 1, 1)), hart(load(1, 0, 1, 0), load(2, 0, 0, -1)))
	tell(t, []checked{{"rule 2", h, order(2, 0, 1), axiom.Wrong{Kind: 2, A: 1, B: 2}}})
}

// P8.2: which of several wrongs is told.
func TestCheckTellsTheFirst(t *testing.T) {
	three := hart(store(10, 0, 1, 0), store(5, 0, 1, 0), store(7, 0, 1, 0))
	bad := load(1, 99, 5, -1)
	lr, cond := load(30, 40, 0, -1), sc(31, 40, 1, 0, 30)
	broken := hart(lr, cond)
	breaker := hart(store(32, 40, 1, 1))
	pair := axiom.Wrong{Kind: axiom.PairWrong, A: 31, B: -1}
	both := harts(hart(load(30, 40, 0, -1), sc(31, 40, 1, 0, 30)), hart(load(33, 48, 0, -1), sc(34, 48, 1, 0, 33)), hart(store(32, 40, 1, 1), store(35, 48, 1, 1)))
	tell(t, []checked{
		{"the second one ahead of the third one", harts(three), order(7, 5, 10), axiom.Wrong{Kind: 1, A: 10, B: 5}},
		{"the first one of two ahead of the third one", harts(three), order(7, 10, 5), axiom.Wrong{Kind: 1, A: 10, B: 7}},
		{"the third one ahead of the second one alone", harts(three), order(10, 7, 5), axiom.Wrong{Kind: 1, A: 5, B: 7}},
		{"the first hart ahead", harts(hart(store(20, 8, 1, 0), store(21, 8, 1, 0)), three), order(7, 5, 10, 21, 20), axiom.Wrong{Kind: 1, A: 20, B: 21}},
		{"the second hart", harts(hart(store(20, 8, 1, 0), store(21, 8, 1, 0)), three), order(7, 5, 20, 10, 21), axiom.Wrong{Kind: 1, A: 10, B: 5}},
		{"the first rule of two", harts(hart(lr, cond)), order(31, 30), axiom.Wrong{Kind: 1, A: 30, B: 31}},
		{"a rule ahead of a value", harts(hart(bad), three), order(1, 10, 7, 5), axiom.Wrong{Kind: 1, A: 5, B: 7}},
		{"a value ahead of a pair", harts(broken, breaker, hart(bad)), order(30, 32, 31, 1), axiom.Wrong{Kind: axiom.ValueWrong, A: 1}},
		{"a rule ahead of a pair", harts(broken, breaker, three), order(30, 32, 31, 10, 7, 5), axiom.Wrong{Kind: 1, A: 5, B: 7}},
		{"the order ahead of all", harts(broken, breaker, three, hart(bad)), order(30, 32, 31, 10, 7, 5), ordered},
		{"the first of two values", harts(hart(load(9, 0, 1, -1), load(2, 8, 1, -1)), hart(bad)), order(1, 2, 9), axiom.Wrong{Kind: axiom.ValueWrong, A: 9}},
		{"the second value alone", harts(hart(load(9, 0, 0, -1), load(2, 8, 1, -1)), hart(bad)), order(1, 2, 9), axiom.Wrong{Kind: axiom.ValueWrong, A: 2}},
		{"the value of the second hart", harts(hart(load(9, 0, 0, -1), load(2, 8, 0, -1)), hart(bad)), order(1, 2, 9), axiom.Wrong{Kind: axiom.ValueWrong, A: 1}},
		{"the first of two pairs", both, order(30, 33, 32, 35, 31, 34), pair},
		{"the second pair", both, order(30, 33, 31, 32, 35, 34), axiom.Wrong{Kind: axiom.PairWrong, A: 34, B: -1}},
	})
}

// P8.2: From and Value of a load.
func TestCheckOfValues(t *testing.T) {
	wrong := axiom.Wrong{Kind: axiom.ValueWrong, A: 1}
	for _, c := range []struct {
		name string
		i    api.Op
		want axiom.Wrong
	}{
		{"as it was stored", load(1, 0, 0x34, 0), axiom.Wrong{}},
		{"two bytes", load(1, 0, 0x1234, 0, 0), axiom.Wrong{}},
		{"and two of nobody", load(1, 0, 0x1234, 0, 0, -1, -1), axiom.Wrong{}},
		{"an amo", amo(1, 0, 0x1234, 9, 0, 0), axiom.Wrong{}},
		{"another value", load(1, 0, 0x33, 0), wrong},
		{"a value with more bits", load(1, 0, 0x1234, 0), wrong},
		{"a value with its sign spread", load(1, 0, 0xffffffffffff1234, 0, 0), wrong},
		{"the highest byte first", load(1, 0, 0x3412, 0, 0), wrong},
		{"bytes of nobody that are not 0", load(1, 0, 0x11234, 0, 0, -1, -1), wrong},
		{"by nobody, with that value", load(1, 0, 0x34, -1), wrong},
		{"by nobody, with 0", load(1, 0, 0, -1), wrong},
		{"nobody by another number", load(1, 0, 0x1234, 0, 0, -2, -1), wrong},
		{"by itself", amo(1, 0, 0x34, 0x34, 1), wrong},
		{"by another store of that value", load(1, 0, 0x34, 2), wrong},
		{"an amo that has what it stored", amo(1, 0, 9, 9, 0), wrong},
	} {
		tell(t, []checked{{c.name, harts(hart(c.i), hart(store(0, 0, 2, 0xff1234), store(2, 0, 1, 0x34))), order(0, 1, 2), c.want}})
	}
}

// P8.2: what another hart does between an lr and its sc, or any Pair.
func TestCheckOfPairs(t *testing.T) {
	lr := load(1, 8, 0, -1, -1)
	own := harts(hart(store(0, 8, 1, 5), load(1, 8, 5, 0, -1), sc(2, 40, 1, 0, 1)), hart(store(3, 8, 1, 6)))
	wrong := func(s int) axiom.Wrong { return axiom.Wrong{Kind: axiom.PairWrong, A: 2, B: s} }
	paired := load(2, 40, 0, -1)
	paired.Pair = 1
	barred := fence(2, 0, 0)
	barred.Pair = 1
	tell(t, []checked{
		{"nobody", harts(hart(lr, sc(2, 8, 2, 7, 1))), order(1, 2), axiom.Wrong{}},
		{"another hart behind", harts(hart(lr, sc(2, 8, 2, 7, 1)), hart(store(3, 8, 1, 6))), order(1, 2, 3), axiom.Wrong{}},
		{"another hart between", harts(hart(lr, sc(2, 8, 2, 7, 1)), hart(store(3, 8, 1, 6))), order(1, 3, 2), wrong(-1)},
		{"another hart between, at the last byte", harts(hart(lr, sc(2, 8, 2, 7, 1)), hart(store(3, 9, 1, 6))), order(1, 3, 2), wrong(-1)},
		{"another hart between, from ahead of the bytes", harts(hart(lr, sc(2, 8, 2, 7, 1)), hart(store(3, 2, 8, 6))), order(1, 3, 2), wrong(-1)},
		{"another hart between, beside", harts(hart(lr, sc(2, 8, 2, 7, 1)), hart(store(3, 10, 8, 6), store(4, 0, 8, 1))), order(1, 3, 4, 2), axiom.Wrong{}},
		{"another hart's load between", harts(hart(lr, sc(2, 8, 2, 7, 1)), hart(load(3, 8, 0, -1, -1))), order(1, 3, 2), axiom.Wrong{}},
		{"another hart's amo between", harts(hart(lr, sc(2, 8, 2, 7, 1)), hart(amo(3, 8, 0, 6, -1))), order(1, 3, 2), wrong(-1)},
		{"a store of its own between", harts(hart(lr, store(3, 8, 2, 7), sc(2, 8, 2, 7, 1))), order(1, 3, 2), axiom.Wrong{}},
		{"of several harts the last one", harts(hart(lr, sc(2, 8, 2, 7, 1)), nil, hart(fence(9, 3, 3)), hart(store(3, 9, 1, 6))), order(1, 3, 2), wrong(-1)},
		{"between them, where the sc stores elsewhere", harts(hart(lr, sc(2, 40, 2, 7, 1)), hart(store(3, 8, 1, 6))), order(1, 3, 2), wrong(-1)},
		{"where the sc stores, but the lr did not load", harts(hart(lr, sc(2, 40, 2, 7, 1)), hart(store(3, 40, 1, 6))), order(1, 3, 2), axiom.Wrong{}},
		{"a load with a Pair", harts(hart(lr, paired), hart(store(3, 8, 1, 6))), order(1, 3, 2), wrong(-1)},
		{"a fence with a Pair", harts(hart(lr, barred), hart(store(3, 8, 1, 6))), order(1, 3), axiom.Wrong{}},
		{"no Pair", harts(hart(lr, store(2, 8, 2, 7)), hart(store(3, 8, 1, 6))), order(1, 3, 2), axiom.Wrong{}},
		// what it returned was its own hart's, which stores later than it loads
		{"its own store ahead of both", own, order(0, 1, 2, 3), axiom.Wrong{}},
		{"its own store between both", own, order(1, 0, 2, 3), axiom.Wrong{}},
		{"its own store behind both", own, order(1, 2, 0, 3), wrong(0)},
		{"another one ahead of its own", own, order(1, 3, 0, 2), axiom.Wrong{}},
		{"another one ahead of all", own, order(3, 1, 0, 2), axiom.Wrong{}},
		{"another one behind its own", own, order(1, 0, 3, 2), wrong(0)},
		{"another one behind its own and the load", own, order(0, 1, 3, 2), wrong(0)},
	})
	// byte by byte: the first one that is wrong, and who wrote that
	h := harts(
		hart(load(1, 8, 0x0807060504030201, 10, 10, 11, 11, 10, 10, 10, 10), sc(2, 8, 8, 0, 1)),
		hart(store(10, 8, 8, 0x0807060500000201), store(11, 10, 2, 0x0403), store(12, 10, 1, 0), store(13, 15, 1, 0)),
	)
	tell(t, []checked{
		{"nobody", h, order(10, 11, 1, 2, 12, 13), axiom.Wrong{}},
		{"the third byte and the eighth", h, order(10, 11, 1, 12, 13, 2), wrong(11)},
		{"the third byte", h, order(10, 11, 1, 12, 2, 13), wrong(11)},
		{"the eighth byte", h, order(10, 11, 1, 13, 2, 12), wrong(10)},
	})
	// several of one Pair, and Pairs of amos
	tell(t, []checked{
		{"the second of two", harts(hart(lr, sc(5, 8, 2, 0, 1), sc(2, 8, 2, 0, 1)), hart(store(3, 8, 1, 0))), order(1, 5, 3, 2), wrong(-1)},
		{"of an amo", harts(hart(amo(1, 8, 0, 9, -1), sc(2, 8, 1, 0, 1)), hart(store(3, 8, 1, 0))), order(1, 3, 2), wrong(-1)},
		{"a Pair in the second hart", harts(hart(store(3, 8, 1, 0)), hart(lr, sc(2, 8, 2, 0, 1))), order(1, 3, 2), wrong(-1)},
	})
}

// P8.2: any traces, held against what is asked as it is written down.
func TestCheckAsTheDocumentTellsIt(t *testing.T) {
	r := row(2)
	met := map[int]int{}
	for range 30000 {
		h, gmo := r.somes(1 + r.next(9))
		if r.next(3) > 0 {
			gmo = r.shuffled(gmo)
		} else if len(gmo) > 1 {
			// two that stand one behind the other change places
			k := r.next(len(gmo) - 1)
			gmo[k], gmo[k+1] = gmo[k+1], gmo[k]
		}
		fill(h, gmo)
		r.spoil(h, gmo)
		want := check(h, gmo)
		if w := axiom.Check(h, gmo); w != want {
			t.Fatalf("%+v, %d: %+v, not %+v", h, gmo, w, want)
		}
		met[want.Kind]++
	}
	for _, kind := range []int{0, 1, 3, 4, 5, 6, 8, 9, 10, 11, axiom.OrderWrong, axiom.ValueWrong, axiom.PairWrong} {
		if met[kind] < 20 {
			t.Errorf("%d was met %d times", kind, met[kind])
		}
	}
}

// spoil changes something now and then.
func (r *row) spoil(h [][]api.Op, gmo []int) {
	for n := range h {
		for k := range h[n] {
			a := &h[n][k]
			if !a.Load || r.next(20) > 0 {
				continue
			}
			switch r.next(3) {
			case 0:
				a.Value ^= 1 << r.next(64)
			case 1:
				a.From[r.next(a.Size)] = r.next(9) - 1
			case 2:
				a.ID = r.next(9) - 1
			}
		}
	}
	if len(gmo) > 0 && r.next(20) == 0 {
		gmo[r.next(len(gmo))] = r.next(9)
	}
}

// P8.4: operations that stand one behind the other, in one hart.
func TestProgramOrderIsAllowed(t *testing.T) {
	r := row(4)
	for range 5000 {
		h, _ := r.somes(r.next(12))
		l := slices.Concat(h...)
		for k := range l {
			if !slices.ContainsFunc(l[:k], func(a api.Op) bool { return a.ID == l[k].Pair }) {
				l[k].Pair = -1
			}
		}
		var gmo []int
		for _, a := range l {
			if !a.Fence {
				gmo = append(gmo, a.ID)
			}
		}
		alone := harts(l)
		fill(alone, gmo)
		if w := axiom.Check(alone, gmo); w != (axiom.Wrong{}) {
			t.Fatalf("%+v: %+v", l, w)
		}
		if found, ok := axiom.Search(alone, 1<<20); ok != (len(gmo) <= 10) || ok && axiom.Check(alone, found) != (axiom.Wrong{}) {
			t.Fatalf("%+v: %d and %t", l, found, ok)
		}
	}
}

// What is handed in is left as it is, and what is told is the caller's own.
func TestAllIsLeftAlone(t *testing.T) {
	r := row(6)
	for range 2000 {
		h, gmo := r.somes(1 + r.next(6))
		gmo = r.shuffled(gmo)
		fill(h, gmo)
		room := append(gmo, 99)[:len(gmo)]
		was := fmt.Sprintf("%+v %d", h, room[:len(gmo)+1])
		axiom.Check(h, room)
		for id := range 6 {
			w := axiom.Writers(h, room, id)
			for k := range w {
				w[k] = -9
			}
		}
		if l, ok := axiom.Search(h, 100); ok {
			want := slices.Clone(l)
			for k := range l {
				l[k] = -9
			}
			if again, _ := axiom.Search(h, 100); !slices.Equal(again, want) {
				t.Fatalf("%d, not %d", again, want)
			}
		}
		if now := fmt.Sprintf("%+v %d", h, room[:len(gmo)+1]); now != was {
			t.Fatalf("%s, not %s", now, was)
		}
	}
}
