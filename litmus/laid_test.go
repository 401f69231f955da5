package litmus_test

import (
	"slices"

	"postbag/litmus"
)

func ld(at int) litmus.Do {
	return litmus.Do{At: at}
}

func st(at int, v uint64) litmus.Do {
	return litmus.Do{Kind: litmus.Store, At: at, V: v}
}

func sw(at int, v uint64) litmus.Do {
	return litmus.Do{Kind: litmus.Swap, At: at, V: v}
}

func aq(d litmus.Do) litmus.Do {
	d.Aq = true
	return d
}

func rl(d litmus.Do) litmus.Do {
	d.Rl = true
	return d
}

func fence(v uint64) litmus.Do {
	return litmus.Do{Kind: litmus.Fence, V: v}
}

// hart tells what a hart does.
func hart(l ...litmus.Do) []litmus.Do { return l }

// test tells what harts do.
func test(l ...[]litmus.Do) [][]litmus.Do { return l }

// copied tells a test in memory of its own.
func copied(t [][]litmus.Do) [][]litmus.Do {
	var c [][]litmus.Do
	for _, l := range t {
		c = append(c, slices.Clone(l))
	}
	return c
}

// row tells numbers below n, one behind the other, alike each time.
type row uint64

func (r *row) next(n int) int {
	*r = *r*6364136223846793005 + 1442695040888963407
	return int(uint64(*r) >> 33 % uint64(n))
}

// some tells a test of at most so many loads, stores and swaps.
func (r *row) some(harts, most int) [][]litmus.Do {
	for {
		t := make([][]litmus.Do, 1+r.next(harts))
		moving := 0
		for h := range t {
			for range r.next(5) {
				d := r.thing()
				t[h] = append(t[h], d)
				if d.Kind != litmus.Fence {
					moving++
				}
			}
		}
		if moving <= most && litmus.Good(t) {
			return t
		}
	}
}

// thing tells a thing that a hart may do.
func (r *row) thing() litmus.Do {
	at, v := r.next(3), uint64(r.next(8))
	switch r.next(7) {
	case 0, 1:
		return ld(at)
	case 2, 3:
		return st(at, v)
	case 4, 5:
		d := sw(at, v)
		d.Aq, d.Rl = r.next(2) == 0, r.next(2) == 0
		return d
	}
	return fence(uint64(r.next(256)))
}

// known are tests whose ends are known: SB, MP, LB, S, R, 2+2W, IRIW, WRC, with and without what orders them.
var known = []struct {
	name string
	t    [][]litmus.Do
	ends []string
}{
	{"nothing", test(hart()), []string{": 0 0 0 0"}},
	{"nothing on four", test(nil, nil, nil, nil), []string{": 0 0 0 0"}},
	{"fences", test(hart(fence(0), fence(255)), hart(fence(51))), []string{": 0 0 0 0"}},
	{"one store", test(hart(st(3, 7))), []string{": 0 0 0 7"}},
	{"one load", test(hart(ld(2))), []string{"0 : 0 0 0 0"}},
	{"a swap, and another", test(hart(sw(1, 4), sw(0, 2))), []string{"0 0 : 2 4 0 0"}},
	{"a load of what the hart stored", test(hart(st(1, 3), st(1, 5), ld(1))), []string{"5 : 0 5 0 0"}},
	{"a store behind a load", test(hart(ld(1), st(1, 5))), []string{"0 : 0 5 0 0"}},
	{"a swap of what the hart stored", test(hart(st(1, 3), sw(1, 5))), []string{"3 : 0 5 0 0"}},
	{"SB", test(hart(st(0, 1), ld(1)), hart(st(1, 1), ld(0))),
		[]string{"0 0 : 1 1 0 0", "0 1 : 1 1 0 0", "1 0 : 1 1 0 0", "1 1 : 1 1 0 0"}},
	{"SB, a fence on one", test(hart(st(0, 1), fence(33), ld(1)), hart(st(1, 1), ld(0))),
		[]string{"0 0 : 1 1 0 0", "0 1 : 1 1 0 0", "1 0 : 1 1 0 0", "1 1 : 1 1 0 0"}},
	{"SB, fences of 33 to the base 16", test(hart(st(0, 1), fence(51), ld(1)), hart(st(1, 1), fence(51), ld(0))),
		[]string{"0 1 : 1 1 0 0", "1 0 : 1 1 0 0", "1 1 : 1 1 0 0"}},
	{"SB, fences of reads alone", test(hart(st(0, 1), fence(34), ld(1)), hart(st(1, 1), fence(34), ld(0))),
		[]string{"0 0 : 1 1 0 0", "0 1 : 1 1 0 0", "1 0 : 1 1 0 0", "1 1 : 1 1 0 0"}},
	{"MP", test(hart(st(0, 1), st(1, 1)), hart(ld(1), ld(0))),
		[]string{"0 0 : 1 1 0 0", "0 1 : 1 1 0 0", "1 0 : 1 1 0 0", "1 1 : 1 1 0 0"}},
	{"MP, fences", test(hart(st(0, 1), fence(17), st(1, 1)), hart(ld(1), fence(34), ld(0))),
		[]string{"0 0 : 1 1 0 0", "0 1 : 1 1 0 0", "1 1 : 1 1 0 0"}},
	{"MP, one fence", test(hart(st(0, 1), fence(17), st(1, 1)), hart(ld(1), ld(0))),
		[]string{"0 0 : 1 1 0 0", "0 1 : 1 1 0 0", "1 0 : 1 1 0 0", "1 1 : 1 1 0 0"}},
	{"MP, released and acquired", test(hart(st(0, 1), rl(sw(1, 1))), hart(aq(sw(1, 2)), ld(0))),
		[]string{"0 1 1 : 1 2 0 0", "2 0 0 : 1 1 0 0", "2 0 1 : 1 1 0 0"}},
	{"LB", test(hart(ld(0), st(1, 1)), hart(ld(1), st(0, 1))),
		[]string{"0 0 : 1 1 0 0", "0 1 : 1 1 0 0", "1 0 : 1 1 0 0", "1 1 : 1 1 0 0"}},
	{"LB, fences", test(hart(ld(0), fence(33), st(1, 1)), hart(ld(1), fence(33), st(0, 1))),
		[]string{"0 0 : 1 1 0 0", "0 1 : 1 1 0 0", "1 0 : 1 1 0 0"}},
	{"2+2W", test(hart(st(0, 1), st(1, 2)), hart(st(1, 1), st(0, 2))),
		[]string{": 1 1 0 0", ": 1 2 0 0", ": 2 1 0 0", ": 2 2 0 0"}},
	{"2+2W, fences", test(hart(st(0, 1), fence(17), st(1, 2)), hart(st(1, 1), fence(17), st(0, 2))),
		[]string{": 1 2 0 0", ": 2 1 0 0", ": 2 2 0 0"}},
	{"swaps of one word", test(hart(sw(0, 1)), hart(sw(0, 2)), hart(sw(0, 3))),
		[]string{"0 1 2 : 3 0 0 0", "0 3 1 : 2 0 0 0", "2 0 1 : 3 0 0 0", "2 3 0 : 1 0 0 0", "3 0 2 : 1 0 0 0", "3 1 0 : 2 0 0 0"}},
	{"swaps that are fences", test(hart(st(0, 1), aq(rl(sw(2, 1))), ld(1)), hart(st(1, 1), aq(rl(sw(3, 1))), ld(0))),
		[]string{"0 0 0 1 : 1 1 1 1", "0 1 0 0 : 1 1 1 1", "0 1 0 1 : 1 1 1 1"}},
	{"the third of four loads", test(hart(ld(0), ld(1), ld(2), ld(3)), hart(st(2, 1))), []string{"0 0 0 0 : 0 0 1 0", "0 0 1 0 : 0 0 1 0"}},
	{"the last of four loads", test(hart(ld(0), ld(1), ld(2), ld(3)), hart(st(3, 1))), []string{"0 0 0 0 : 0 0 0 1", "0 0 0 1 : 0 0 0 1"}},
	{"stores of 0, seen as what was there", test(hart(st(0, 0)), hart(ld(0))), []string{"0 : 0 0 0 0"}},
	{"three behind one another", test(hart(st(0, 1)), hart(ld(0), fence(33), st(1, 1)), hart(ld(1), fence(34), ld(0))),
		[]string{"0 0 0 : 1 1 0 0", "0 0 1 : 1 1 0 0", "0 1 0 : 1 1 0 0", "0 1 1 : 1 1 0 0", "1 0 0 : 1 1 0 0", "1 0 1 : 1 1 0 0", "1 1 1 : 1 1 0 0"}},
}
