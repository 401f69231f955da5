package order_test

import (
	"math"
	"testing"

	"postbag/api"
	"postbag/order"
)

// P7.1: whether there is a byte of both.
func TestOverlap(t *testing.T) {
	const most = api.MaxMemory
	idle := api.Op{Addr: 0, Size: 8, Pair: -1}
	barred := store(0, 0, 8)
	barred.Fence = true
	for _, c := range []struct {
		a, b api.Op
		want bool
	}{
		{load(0, 0, 8), store(1, 0, 8), true},
		{load(0, 0, 8), load(1, 7, 1), true},
		{load(0, 0, 8), load(1, 8, 1), false},
		{store(0, 0, 4), store(1, 4, 4), false},
		{store(0, 0, 4), store(1, 3, 4), true},
		{amo(0, 4, 4), amo(1, 0, 4), false},
		{amo(0, 4, 4), amo(1, 1, 4), true},
		{store(0, 100, 1), store(1, 100, 1), true},
		{store(0, 100, 1), store(1, 101, 1), false},
		// sizes that numbers don't have
		{load(0, 0, 3), store(1, 2, 5), true},
		{load(0, 0, 3), store(1, 3, 5), false},
		{load(0, 0, most), store(1, most-1, 1), true},
		{load(0, 0, most), store(1, most, 1), false},
		{load(0, 0, most), store(1, 0, most), true},
		{load(0, 5, most), store(1, most+4, most), true},
		{load(0, 5, most), store(1, most+5, most), false},
		// no bytes
		{load(0, 0, most+1), store(1, 0, 8), false},
		{load(0, 0, 1<<32+8), store(1, 0, 8), false},
		{load(0, 0, math.MaxInt), store(1, 0, 8), false},
		{load(0, 0, 0), store(1, 0, 8), false},
		{load(0, 0, 0), store(1, 0, 0), false},
		{load(0, 1, 0), store(1, 0, 8), false},
		{load(0, 4, -1), store(1, 0, 8), false},
		{load(0, 4, math.MinInt), store(1, 0, 8), false},
		{load(0, 4, -1), store(1, 4, -1), false},
		{idle, store(1, 0, 8), false},
		{idle, idle, false},
		{fence(0, 3, 3), store(1, 0, 8), false},
		{fence(0, 3, 3), fence(1, 3, 3), false},
		{barred, load(1, 0, 8), true}, // it stores, so it has bytes
		// near 2^63 and 2^64
		{load(0, 1<<63-4, 8), store(1, 1<<63, 1), true},
		{load(0, 1<<63-4, 4), store(1, 1<<63, 1), false},
		{load(0, last, 1), store(1, last, 1), true},
		{load(0, last-7, 8), store(1, last, 1), true},
		{load(0, last-7, 8), store(1, last-8, 1), false},
		{load(0, last-7, 8), store(1, 0, 8), false},
		{load(0, last-6, 8), store(1, last-6, 1), false}, // the last byte would be beyond
		{load(0, last-6, 8), store(1, 0, 1), false},
		{load(0, last, 2), store(1, last, 1), false},
		{load(0, last, 2), store(1, 0, 1), false},
		{load(0, last, 2), load(1, last, 2), false},
		{load(0, last-most+1, most), store(1, last, 1), true},
		{load(0, last-most+2, most), store(1, last, 1), false},
		{load(0, last, most), store(1, last, 1), false},
		{load(0, last, math.MaxInt), store(1, last, 1), false},
	} {
		if order.Overlap(c.a, c.b) != c.want || order.Overlap(c.b, c.a) != c.want {
			t.Errorf("%+v and %+v: not %t", c.a, c.b, c.want)
		}
	}
}

// P7.1: any operations, byte by byte.
func TestOverlapByteByByte(t *testing.T) {
	r := row(1)
	met := 0
	for range 100000 {
		a, b := r.some(), r.some()
		want := meet(a, b)
		if order.Overlap(a, b) != want {
			t.Fatalf("%+v and %+v: not %t", a, b, want)
		}
		if want {
			met++
		}
	}
	if met < 5000 {
		t.Errorf("%d have a byte in common", met)
	}
}
