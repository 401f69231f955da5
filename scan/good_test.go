package scan_test

import (
	"math"
	"slices"
	"testing"

	"postbag/scan"
)

// odd are lives that may not be, each for one thing alone.
func odd() map[string][]scan.Life {
	return map[string][]scan.Life{
		"From below":               lives(-1, 2),
		"the least From":           lives(math.MinInt, 2),
		"From one beyond":          lives(1<<20+1, 1<<20+2),
		"From beyond To's end":     lives(1<<20+1, 1<<20+1),
		"the greatest From":        lives(math.MaxInt, math.MaxInt),
		"To one beyond":            lives(1<<20, 1<<20+2),
		"To one beyond, long":      lives(0, 1<<20+2),
		"the greatest To":          lives(0, math.MaxInt),
		"To at From":               lives(3, 3),
		"To at From, both 0":       lives(0, 0),
		"To at From, at the end":   lives(1<<20, 1<<20),
		"To below From":            lives(3, 2),
		"To below 0":               lives(0, -1),
		"the least To":             lives(0, math.MinInt),
		"the first of several":     lives(2, 2, 0, 1, 3, 4),
		"the last of several":      lives(0, 1, 3, 4, 5, 4),
		"one in the middle":        lives(0, 1, -1, 4, 5, 6),
		"one too many":             copies(10001, 0, 1),
		"many too many":            copies(30000, 0, 1),
		"the last of as may be":    append(copies(9999, 0, 1), scan.Life{}),
		"one too many, that isn't": append(copies(10000, 0, 1), scan.Life{}),
	}
}

// good are lives that may be.
func good() map[string][]scan.Life {
	return map[string][]scan.Life{
		"none":              nil,
		"an empty list":     {},
		"one place":         lives(0, 1),
		"the last place":    lives(1<<20, 1<<20+1),
		"all places":        lives(0, 1<<20+1),
		"several":           lives(5, 6, 0, 9, 5, 6, 1, 2),
		"as many as may be": copies(10000, 0, 1<<20+1),
	}
}

// P18.1: whether lives may be; of those that may not be nothing is told.
func TestGood(t *testing.T) {
	for what, l := range odd() {
		if scan.Good(l) {
			t.Errorf("%s: good", what)
		}
		if n := scan.Peak(l); n != 0 {
			t.Errorf("%s: a peak of %d", what, n)
		}
		for _, regs := range []int{-1, 0, 1, 64, 65} {
			assigned(t, what, l, regs, 0)
		}
	}
	for what, l := range good() {
		if !scan.Good(l) {
			t.Errorf("%s: not good", what)
		}
		if r, _ := scan.Assign(l, 1); len(r) != len(l) {
			t.Errorf("%s: %d rooms", what, len(r))
		}
	}
}

// P18.1: how many registers there may be.
func TestRegisters(t *testing.T) {
	l := copies(70, 3, 9)
	for _, regs := range []int{-1, math.MinInt, 65, 66, math.MaxInt} {
		assigned(t, "no such number", l, regs, 0)
		assigned(t, "no such number, no lives", nil, regs, 0)
	}
	for _, regs := range []int{0, 1, 2, 63, 64} {
		rooms := make([]int, len(l))
		for i := range rooms {
			rooms[i] = i
			if i >= regs {
				rooms[i] = regs - 1 - i
			}
		}
		assigned(t, "70 that are one", l, regs, len(l)-regs, rooms...)
		assigned(t, "no lives", nil, regs, 0)
	}
}

// Rules 4 and 8: what is handed in stays as it was, its spare room too, and what lies behind a list's length is not read.
func TestKept(t *testing.T) {
	all := lives(5, 9, 0, 4, 5, 7, 1, 9, -1, -1, 2, 1)
	l, before := all[:4], slices.Clone(all)
	if !scan.Good(l) || scan.Peak(l) != 3 {
		t.Error("not good, or another peak")
	}
	assigned(t, "a list with spare room", l, 1, 2, -2, 0, 0, -1)
	rooms, slots := scan.Assign(l, 2)
	for i := range rooms {
		rooms[i] = 99
	}
	again, n := scan.Assign(l, 2)
	if slots != n || slices.Contains(again, 99) {
		t.Errorf("what is told hangs on an answer: %v, %d", again, n)
	}
	if !scan.Good(copies(10001, 0, 1)[:10000]) {
		t.Error("the lives behind a list's length count")
	}
	if !slices.Equal(all, before) {
		t.Errorf("%v, not %v", all, before)
	}
}
