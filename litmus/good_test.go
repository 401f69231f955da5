package litmus_test

import (
	"math"
	"slices"
	"testing"

	"postbag/api"
	"postbag/inst"
	"postbag/listing"
	"postbag/litmus"
)

// many tells so many fences.
func many(n int) []litmus.Do {
	return slices.Repeat([]litmus.Do{fence(51)}, n)
}

// P10.1: what is a test.
func TestGood(t *testing.T) {
	stores := slices.Repeat([]litmus.Do{st(0, 1)}, 5)
	for _, c := range [][][]litmus.Do{
		test(nil), test(hart()), test(nil, nil, nil, nil),
		test(many(6), many(6), many(6), many(6)),
		test(hart(ld(0), ld(1), ld(2), ld(3))),
		test(hart(ld(0), sw(1, 7), ld(2), sw(3, 0))),
		test(hart(st(0, 0), st(0, 7), st(3, 7), st(0, 0), ld(0), st(0, 1))), // stores may be of one place
		test(hart(aq(sw(0, 0)), rl(sw(1, 0)), aq(rl(sw(2, 0))))),
		test(hart(fence(0), fence(255))),
		test(hart(ld(0)), hart(ld(0)), hart(sw(0, 1)), hart(ld(0))), // of harts each once
		test(stores, stores),
		test(stores, stores, many(6), many(6)),
		test(slices.Repeat([]litmus.Do{st(0, 1)}, 6), hart(ld(0), ld(1), ld(2), sw(3, 1))),
	} {
		if !litmus.Good(c) {
			t.Errorf("%v is no test", c)
		}
	}
}

// bad are no tests, each for one reason.
func bad() []struct {
	name string
	t    [][]litmus.Do
} {
	stores := slices.Repeat([]litmus.Do{st(0, 1)}, 5)
	l := []struct {
		name string
		t    [][]litmus.Do
	}{
		{"none", nil}, {"no harts", test()}, {"five harts", test(nil, nil, nil, nil, nil)},
		{"seven things", test(many(7))}, {"seven things of the last hart", test(nil, many(6), nil, many(7))},
		{"a place twice, loaded", test(hart(ld(0), ld(0)))}, {"a place twice, swapped", test(hart(sw(1, 1), sw(1, 2)))},
		{"a place loaded and swapped", test(hart(ld(2), st(2, 1), sw(2, 1)))},
		{"a place swapped and loaded", test(hart(ld(0)), hart(sw(3, 1), fence(51), ld(3)))},
		{"eleven stores", test(stores, append(slices.Clone(stores), st(1, 1)))},
		{"eleven loads, stores and swaps", test(stores, hart(ld(0), ld(1), sw(2, 1)), hart(sw(0, 1), ld(1), st(2, 1)))},
		{"a load with V", test(hart(litmus.Do{V: 1}))},
		{"a load with Aq", test(hart(aq(ld(0))))}, {"a load with Rl", test(hart(rl(ld(0))))},
		{"a store with Aq", test(hart(aq(st(0, 1))))}, {"a store with Rl", test(hart(rl(st(0, 1))))},
		{"a fence with Aq", test(hart(aq(fence(1))))}, {"a fence with Rl", test(hart(rl(fence(1))))},
		{"a fence with At", test(hart(litmus.Do{Kind: litmus.Fence, At: 1, V: 1}))},
	}
	type entry = struct {
		name string
		t    [][]litmus.Do
	}
	for _, at := range []int{-1, 4, math.MinInt, math.MaxInt} {
		l = append(l, entry{"a load's place", test(hart(ld(at)))}, entry{"a store's place", test(hart(st(at, 1)))},
			entry{"a swap's place", test(hart(sw(at, 1)))}, entry{"a fence's place", test(hart(litmus.Do{Kind: litmus.Fence, At: at}))},
			entry{"a kind", test(hart(litmus.Do{Kind: at}))})
	}
	for _, v := range []uint64{8, 255, 256, 1 << 63, math.MaxUint64} {
		l = append(l, entry{"a store's number", test(hart(st(0, v)))}, entry{"a swap's number", test(hart(sw(0, v)))})
		if v > 255 {
			l = append(l, entry{"a fence's number", test(hart(fence(v)))})
		}
	}
	return l
}

// P10.1 to P10.3: what is no test has no code and no ends.
func TestNotGood(t *testing.T) {
	for _, c := range bad() {
		if litmus.Good(c.t) {
			t.Errorf("%s: %v is a test", c.name, c.t)
		}
		if l := litmus.Code(c.t); len(l) != 0 {
			t.Errorf("%s: code %v", c.name, l)
		}
		if l, ok := litmus.Explore(c.t, math.MaxInt); len(l) != 0 || ok {
			t.Errorf("%s: explored %v, %t", c.name, l, ok)
		}
		if l, ok := litmus.Allowed(c.t, math.MaxInt); len(l) != 0 || ok {
			t.Errorf("%s: allowed %v, %t", c.name, l, ok)
		}
	}
}

// P10.1: an end as text.
func TestText(t *testing.T) {
	for _, c := range []struct {
		loads, mem []uint64
		want       string
	}{
		{nil, nil, ":"}, {[]uint64{}, []uint64{}, ":"},
		{[]uint64{0, 0}, []uint64{1, 1, 0, 0}, "0 0 : 1 1 0 0"},
		{[]uint64{7}, nil, "7 :"}, {nil, []uint64{10}, ": 10"},
		{[]uint64{math.MaxUint64, 1 << 63}, []uint64{12345678901}, "18446744073709551615 9223372036854775808 : 12345678901"},
	} {
		if s := litmus.Text(c.loads, c.mem); s != c.want {
			t.Errorf("%q, not %q", s, c.want)
		}
	}
}

// P10.1: the code of each kind of thing.
func TestCode(t *testing.T) {
	for _, c := range []struct {
		t    [][]litmus.Do
		want []string
	}{
		{test(nil), []string{"ebreak\n"}},
		{test(hart(ld(0), st(1, 7), fence(18), ld(3)), nil, hart(sw(2, 5), rl(sw(3, 0)), aq(sw(0, 1)), aq(rl(sw(1, 2)))), hart(fence(0), fence(255), st(0, 0), ld(1), ld(0))), []string{
			"ld x12 x0 1024\naddi x5 x0 7\nsd x0 x5 1032\nfence 18\nld x13 x0 1048\nebreak\n",
			"ebreak\n",
			"addi x5 x0 5\naddi x6 x0 1040\namoswap.d x12 x6 x5\naddi x5 x0 0\naddi x6 x0 1048\namoswap.d.rl x13 x6 x5\n" +
				"addi x5 x0 1\naddi x6 x0 1024\namoswap.d.aq x14 x6 x5\naddi x5 x0 2\naddi x6 x0 1032\namoswap.d.aqrl x15 x6 x5\nebreak\n",
			"fence 0\nfence 255\naddi x5 x0 0\nsd x0 x5 1024\nld x12 x0 1032\nld x13 x0 1024\nebreak\n",
		}},
	} {
		var got []string
		for _, l := range litmus.Code(c.t) {
			got = append(got, listing.Lines(l))
		}
		if !slices.Equal(got, c.want) {
			t.Errorf("%q, not %q", got, c.want)
		}
	}
}

// P10.1: all instructions may be, and no code reaches the next hart's, or the words.
func TestCodeMayBe(t *testing.T) {
	r := row(1)
	for range 2000 {
		for _, l := range litmus.Code(r.some(4, 10)) {
			if len(l) > 64 || l[len(l)-1] != (api.Inst{Op: api.OpEbreak}) {
				t.Fatalf("%v", l)
			}
			for _, i := range l {
				if !inst.Good(i) {
					t.Fatalf("%+v may not be", i)
				}
			}
		}
	}
}
