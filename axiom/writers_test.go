package axiom_test

import (
	"math"
	"slices"
	"testing"

	"postbag/api"
	"postbag/axiom"
)

// has asks who wrote a load's bytes.
func has(t *testing.T, name string, h [][]api.Op, gmo []int, id int, want ...int) {
	t.Helper()
	if w := axiom.Writers(h, gmo, id); !slices.Equal(w, want) {
		t.Errorf("%s: %d, not %d", name, w, want)
	}
}

// P8.1: who stands last in the order, of those that stand ahead in it, or in program order.
func TestWriters(t *testing.T) {
	h := harts(hart(store(0, 8, 1, 1), load(1, 8, 0, -1), store(2, 8, 1, 2)), hart(store(3, 8, 1, 3), load(4, 8, 0, -1)), nil, hart(fence(5, 3, 3)))
	for _, c := range []struct {
		gmo       []int
		one, four int
	}{
		{order(0, 1, 2, 3, 4), 0, 3},
		{order(1, 0, 2, 3, 4), 0, 3}, // 0 stands ahead in program order
		{order(1, 2, 3, 4, 0), 0, 3},
		{order(1, 4, 2, 3, 0), 0, 3},
		{order(3, 1, 4, 2, 0), 0, 3},
		{order(3, 0, 1, 4, 2), 0, 0},
		{order(0, 3, 1, 2, 4), 3, 2},
		{order(4, 0, 3, 1, 2), 3, 3},
		{order(0, 3, 2, 4, 1), 2, 2}, // 2 stands behind in program order
		{order(2, 3, 1, 0, 4), 0, 0},
		// what is not in the order does not store
		{order(), -1, -1},
		{order(1, 4), -1, -1},
		{order(2, 1, 4), 2, 2},
		{order(1, 4, 2), -1, -1},
		{order(0, 2), 0, -1}, // a load that is not in it has those of its own hart
		{order(2, 3), -1, 3},
		{order(77, 3, 1, -1, 4), 3, 3},
		{order(5, 3, 1), 3, 3},
	} {
		has(t, "1", h, c.gmo, 1, c.one)
		has(t, "4", h, c.gmo, 4, c.four)
		for _, id := range []int{0, 2, 3, 5, 6, -1, math.MinInt, math.MaxInt} {
			has(t, "no load", h, c.gmo, id)
		}
	}
}

// P8.1: byte by byte, of its own hart and of others.
func TestWritersOfBytes(t *testing.T) {
	h := harts(
		hart(store(10, 8, 1, 0x11), store(11, 13, 2, 0x2221), load(12, 8, 0, 0, 0, 0, 0, 0, 0, 0, 0), store(13, 9, 1, 0x33)),
		hart(store(20, 4, 8, 0x4847464544434241), store(21, 14, 8, 0x58), load(22, 9, 0, 0, 0, 0, 0)),
	)
	has(t, "others first", h, order(20, 21, 10, 11, 12, 13, 22), 12, 10, 20, 20, 20, -1, 11, 11, 21)
	has(t, "others last", h, order(10, 11, 20, 21, 12, 13, 22), 12, 20, 20, 20, 20, -1, 11, 21, 21)
	has(t, "others behind", h, order(12, 10, 11, 13, 20, 21, 22), 12, 10, -1, -1, -1, -1, 11, 11, -1)
	has(t, "all ahead", h, order(20, 13, 10, 21, 11, 12, 22), 12, 10, 13, 20, 20, -1, 11, 11, 21)
	has(t, "another load", h, order(22, 20, 13, 10, 21, 11, 12), 22, 20, 20, 20, -1)
	has(t, "another load behind", h, order(20, 13, 10, 21, 11, 12, 22), 22, 13, 20, 20, -1)
}

// P8.1: an amo has not written what it loads; what neither stores nor is there is nobody's.
func TestWritersOfAmos(t *testing.T) {
	h := harts(hart(amo(0, 0, 0, 1, -1), amo(1, 0, 0, 1, -1), load(3, 0, 0, -1)), hart(amo(2, 0, 0, 1, -1)))
	has(t, "the first one", h, order(0, 1, 2, 3), 0, -1)
	has(t, "the second one", h, order(0, 1, 2, 3), 1, 0)
	has(t, "the other hart's", h, order(0, 1, 2, 3), 2, 1)
	has(t, "the load", h, order(0, 1, 2, 3), 3, 2)
	has(t, "the first one behind", h, order(1, 2, 0, 3), 0, 2)
	has(t, "the second one ahead", h, order(1, 2, 0, 3), 1, 0)
}

// P8.1: of sizes that no number has: at most 8 of the bytes that there are.
func TestWritersOfOtherSizes(t *testing.T) {
	for _, c := range []struct {
		size int
		want []int
	}{
		{0, nil}, {-1, nil}, {math.MinInt, nil}, {1, []int{0}}, {2, []int{0, 0}}, {3, []int{0, 0, -1}}, {7, []int{0, 0, -1, -1, 2, -1, -1}},
		{8, []int{0, 0, -1, -1, 2, -1, -1, -1}}, {9, []int{0, 0, -1, -1, 2, -1, -1, -1}}, {16, []int{0, 0, -1, -1, 2, -1, -1, -1}},
		{api.MaxMemory, []int{0, 0, -1, -1, 2, -1, -1, -1}}, {api.MaxMemory + 1, nil}, {math.MaxInt, nil}, {1<<32 + 2, nil},
	} {
		l := load(1, 100, 0)
		l.Size = c.size
		has(t, "a size", harts(hart(store(0, 100, 2, 0), l), hart(store(2, 104, 1, 0))), order(0, 2, 1), 1, c.want...)
	}
	for _, c := range []struct{ size, want int }{{0, -1}, {-1, -1}, {3, 0}, {api.MaxMemory, 0}, {api.MaxMemory + 1, -1}, {math.MaxInt, -1}} {
		has(t, "a store's size", harts(hart(store(0, 100, c.size, 0), load(1, 101, 0, -1))), order(0, 1), 1, c.want)
	}
}

// P8.1: near 2^64 nothing comes round.
func TestWritersNearTheEnd(t *testing.T) {
	h := harts(hart(store(0, last-1, 2, 0), store(1, 0, 8, 0), load(2, last-3, 0, 0, 0, 0, 0)), hart(store(3, last, 2, 0), load(4, last, 0, 0, 0), load(5, 0, 0, 0), load(6, last, 0, 0)))
	gmo := order(0, 1, 3, 2, 4, 5, 6)
	has(t, "the last four", h, gmo, 2, -1, -1, 0, 0)
	has(t, "more than are there", h, gmo, 4)
	has(t, "the first one", h, gmo, 5, 1)
	has(t, "the last one", h, gmo, 6, 0)
}

// P8.1: of IDs that are alike it is the first one's.
func TestWritersOfIDsAlike(t *testing.T) {
	has(t, "a load, then a store", harts(hart(store(0, 8, 1, 0), load(1, 8, 0, 0)), hart(store(1, 8, 1, 0))), order(0, 1), 1, 0)
	has(t, "a store, then a load", harts(hart(store(0, 8, 1, 0), store(1, 8, 1, 0)), hart(load(1, 8, 0, 0))), order(0, 1), 1)
	has(t, "a fence, then a load", harts(hart(fence(1, 3, 3), load(1, 8, 0, 0))), order(1), 1)
	has(t, "two loads", harts(hart(store(0, 8, 1, 0), load(1, 9, 0, 0)), hart(load(1, 8, 0, 0))), order(0, 1), 1, -1)
	has(t, "below 0", harts(hart(store(-5, 8, 1, 0), load(-1, 8, 0, 0))), order(-5, -1), -1, -5)
	has(t, "no harts", nil, order(0, 1), 1)
	has(t, "harts without operations", harts(nil, hart()), order(0, 1), 1)
}

// P8.1: any operations and orders, also such as are not whole.
func TestWritersAsTheDocumentTellsIt(t *testing.T) {
	r := row(1)
	met := 0
	for range 20000 {
		h, gmo := r.somes(1 + r.next(8))
		gmo = r.shuffled(gmo)
		gmo = gmo[:len(gmo)-r.next(len(gmo)+1)*r.next(2)]
		for id := -1; id < 9; id++ {
			want := writers(h, gmo, id)
			has(t, "any", h, gmo, id, want...)
			for _, w := range want {
				if w != -1 {
					met++
				}
			}
		}
		if t.Failed() {
			t.Fatalf("%+v %d", h, gmo)
		}
	}
	if met < 10000 {
		t.Errorf("%d bytes were written", met)
	}
}
