package scan_test

import (
	"testing"

	"postbag/scan"
)

// P18.1: rooms and slots.
func TestAssign(t *testing.T) {
	for _, x := range []struct {
		what        string
		l           []scan.Life
		regs, slots int
		rooms       []int
	}{
		{"the chapter's example", lives(0, 4, 1, 2, 1, 9), 1, 2, []int{-1, 0, -2}},
		{"the least free register", lives(0, 2, 0, 5, 0, 3, 2, 4, 3, 4), 3, 0, []int{0, 1, 2, 0, 2}},
		{"the least of two that are free at once", lives(0, 2, 0, 9, 0, 2, 2, 4, 2, 4), 3, 0, []int{0, 1, 2, 0, 2}},
		{"by From, rising", lives(5, 6, 3, 6, 1, 6, 0, 6), 4, 0, []int{3, 2, 1, 0}},
		{"of one From in their order", lives(2, 9, 0, 1, 2, 5, 2, 9, 0, 1), 3, 0, []int{0, 0, 1, 2, 1}},
		{"of one From, with one register", lives(0, 3, 0, 2, 0, 1), 1, 2, []int{-1, -2, 0}},
		{"of one From, with one register, the longest last", lives(0, 1, 0, 2, 0, 3), 1, 2, []int{0, -1, -2}},
		{"of one To: the one taken last", lives(0, 5, 1, 5, 2, 5), 1, 2, []int{0, -1, -2}},
		{"of one To: of those that have a register the one taken last", lives(0, 9, 1, 9, 2, 9, 3, 4), 3, 1, []int{0, 1, -1, 2}},
		{"of one To: taken last, not the greatest register", lives(0, 2, 0, 9, 0, 9, 2, 9, 3, 4), 3, 1, []int{0, 1, 2, -1, 0}},
		{"touching lives", lives(0, 3, 3, 6, 6, 7), 1, 0, []int{0, 0, 0}},
		{"touching lives, the other way about", lives(6, 7, 3, 6, 0, 3), 1, 0, []int{0, 0, 0}},
		{"one place too long", lives(0, 4, 3, 6, 6, 7), 1, 1, []int{0, -1, 0}},
		{"a register given away", lives(0, 9, 3, 5), 1, 1, []int{-1, 0}},
		{"given away again", lives(0, 9, 1, 8, 2, 7), 1, 2, []int{-1, -2, 0}},
		{"the longest one's register", lives(0, 5, 0, 9, 0, 7, 1, 6), 3, 1, []int{0, -1, 2, 1}},
		{"the last one is the longest", lives(0, 5, 0, 6, 1, 9), 2, 1, []int{0, 1, -1}},
		{"no register at all", lives(0, 2, 1, 3, 2, 4), 0, 2, []int{-1, -2, -1}},
		{"no register, touching", lives(0, 2, 2, 3, 3, 4), 0, 1, []int{-1, -1, -1}},
		{"several share a slot", lives(0, 9, 1, 8, 9, 19, 10, 11, 20, 29, 21, 22), 1, 1, []int{-1, 0, -1, 0, -1, 0}},
		// The third one begins while the slot's life is still there, and goes to a slot when that is over.
		{"a slot unlike those of all that are met", lives(0, 6, 1, 5, 5, 20, 7, 9, 8, 30), 1, 2, []int{-1, 0, -2, 0, -1}},
		{"the nearest slot, not the next one", lives(0, 9, 0, 3, 0, 9, 4, 9), 0, 3, []int{-1, -2, -3, -2}},
		{"a slot between others", lives(0, 9, 1, 3, 2, 9, 3, 4, 3, 9), 0, 4, []int{-1, -2, -3, -2, -4}},
		{"one life", lives(7, 8), 1, 0, []int{0}},
		{"one life, no register", lives(7, 8), 0, 1, []int{-1}},
		{"at the ends", lives(0, 1<<20+1, 1<<20, 1<<20+1, 0, 1), 1, 1, []int{-1, 0, 0}},
		{"at the ends, two registers", lives(0, 1<<20+1, 1<<20, 1<<20+1, 0, 1), 2, 0, []int{0, 1, 1}},
	} {
		assigned(t, x.what, x.l, x.regs, x.slots, x.rooms...)
	}
}

// P18.2: the greatest number of lives that have one place in common.
func TestPeak(t *testing.T) {
	for _, x := range []struct {
		what string
		l    []scan.Life
		want int
	}{
		{"none", nil, 0},
		{"one", lives(3, 4), 1},
		{"the chapter's", lives(0, 4, 1, 2, 1, 9), 3},
		{"touching", lives(0, 2, 2, 4, 4, 9), 1},
		{"one place in common", lives(0, 3, 2, 4), 2},
		{"two by two, not all at once", lives(0, 3, 2, 6, 5, 9, 8, 10), 2},
		{"at the end", lives(0, 1, 5, 9, 6, 9, 7, 9, 1<<20, 1<<20+1), 3},
		{"behind some that are over", lives(0, 2, 0, 2, 2, 5, 2, 5, 2, 5), 3},
		{"in no order", lives(7, 9, 0, 1, 5, 9, 6, 9), 3},
		{"in one another", lives(0, 9, 1, 8, 2, 7, 3, 6, 4, 5), 5},
		{"all places", lives(0, 1<<20+1, 0, 1, 1<<20, 1<<20+1), 2},
		{"as many as may be", copies(10000, 9, 10), 10000},
	} {
		if n := scan.Peak(x.l); n != x.want {
			t.Errorf("%s: %d, not %d", x.what, n, x.want)
		}
	}
}

// P18.1, P18.2: as many lives as may be, all of which meet, and none of which do.
func TestMost(t *testing.T) {
	const most = 10000
	in := make([]scan.Life, most)   // each one in the one ahead of it
	out := make([]scan.Life, most)  // each one outlives the one ahead of it
	turn := make([]scan.Life, most) // none meets another one
	for i := range most {
		in[i], out[i], turn[i] = scan.Life{From: i, To: 1<<20 - i}, scan.Life{From: i, To: most + i}, scan.Life{From: i, To: i + 1}
	}
	for _, x := range []struct {
		l           []scan.Life
		regs, slots int
		first, last int
		peak        int
	}{
		{in, 0, most, -1, -most, most},
		{in, 1, most - 1, -1, 0, most},
		{in, 64, most - 64, -1, (most - 1) % 64, most},
		{out, 0, most, -1, -most, most},
		{out, 64, most - 64, 0, -(most - 64), most},
		{turn, 0, 1, -1, -1, 1},
		{turn, 64, 0, 0, 0, 1},
		{copies(most, 0, 1<<20+1), 64, most - 64, 0, -(most - 64), most},
	} {
		rooms, slots := scan.Assign(x.l, x.regs)
		if len(rooms) != most || slots != x.slots || rooms[0] != x.first || rooms[most-1] != x.last {
			t.Errorf("%d registers: %d slots, %d, %d", x.regs, slots, rooms[0], rooms[most-1])
		}
		if n := scan.Peak(x.l); n != x.peak {
			t.Errorf("a peak of %d, not %d", n, x.peak)
		}
	}
}
