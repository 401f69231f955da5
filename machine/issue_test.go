package machine_test

import (
	"slices"
	"testing"

	"postbag/api"
	"postbag/machine"
)

// P9.2: an instruction waits for registers that it reads, and for one that it sets.
func TestWaits(t *testing.T) {
	for _, c := range []struct {
		line  string
		waits bool
	}{
		{"add x7 x5 x6", true}, {"add x7 x6 x5", true}, {"add x7 x6 x6", false},
		{"addi x5 x0 1", true}, {"lui x5 4096", true}, {"jal x5 8", true}, {"jal x6 8", false},
		{"ld x5 x0 1024", true}, {"ld x6 x5 0", true}, {"ld x0 x6 1032", false},
		{"sd x5 x6 0", true}, {"sd x6 x5 0", true}, {"sd x6 x7 1032", false},
		{"amoadd.d x5 x6 x7", true}, {"amoadd.d x7 x5 x6", true}, {"amoadd.d x7 x6 x5", true},
		{"lr.d x6 x5", true}, {"sc.d x5 x6 x7", true}, {"sc.d x6 x7 x7", false},
		{"beq x5 x0 8", true}, {"beq x0 x5 8", true}, {"beq x6 x7 8", false},
		{"jalr x0 x5 8", true}, {"fence 255", false}, {"ebreak", false}, {"ecall", true},
	} {
		for _, ahead := range []string{"ld x5 x0 1024", "amoswap.w x5 x10 x0", "lr.d x5 x10", "sc.w x5 x10 x0"} {
			m := laid(t, code(ahead, c.line))
			issues(t, m, 0, 1)
			lacks(t, m, 0, 5)
			if !c.waits {
				do(t, m, issue(0))
				continue
			}
			refuses(t, m, issue(0), api.ErrWait)
			do(t, m, perform(0, 0))
			do(t, m, issue(0))
		}
	}
}

// P9.2: register 0 is never missing, and has 0.
func TestRegisterZero(t *testing.T) {
	m := laid(t, code("amoadd.d x0 x10 x10", "addi x0 x0 5", "ld x0 x0 1024", "add x5 x0 x0", "jal x0 4"))
	issues(t, m, 0, 5)
	has(t, m, 0, 0, 0)
	has(t, m, 0, 5, 0)
	do(t, m, perform(0, 0), perform(0, 0))
	has(t, m, 0, 0, 0)
}

// P9.2: an ecall waits as long as anything is open, be it a fence.
func TestEcallWaits(t *testing.T) {
	m := laid(t, code("addi x17 x0 1", "sd x0 x0 1024", "fence 51", "ecall"))
	issues(t, m, 0, 3)
	refuses(t, m, issue(0), api.ErrWait)
	do(t, m, perform(0, 0))
	issues(t, m, 0, 1)
}

// P9.2: what can't be done stops the hart, where it is.
func TestStops(t *testing.T) {
	for _, c := range []struct {
		lines []string
		n     int // how many are issued ahead
		want  api.Errno
		at    uint64
	}{
		{nil, 0, api.ErrIllegal, 0},
		{[]string{"addi x5 x0 1"}, 1, api.ErrIllegal, 4},
		{[]string{"ebreak"}, 0, api.ErrHalt, 0},
		{[]string{"ecall"}, 0, api.ErrHalt, 0},
		{[]string{"jal x1 2"}, 1, api.ErrAlign, 2},
		{[]string{"jalr x1 x0 2046"}, 1, api.ErrAlign, 2046},
		{[]string{"addi x5 x0 2044", "jalr x1 x5 4"}, 2, api.ErrOut, 2048},
		{[]string{"jal x1 -4"}, 1, api.ErrOut, 0xfffffffffffffffc},
		{[]string{"ld x5 x0 1028"}, 0, api.ErrAlign, 0},
		{[]string{"lw x5 x0 1026"}, 0, api.ErrAlign, 0},
		{[]string{"lhu x5 x0 1025"}, 0, api.ErrAlign, 0},
		{[]string{"lb x5 x0 -1"}, 0, api.ErrOut, 0},
		{[]string{"ld x0 x0 -8"}, 0, api.ErrOut, 0},
		{[]string{"ld x5 x0 -4"}, 0, api.ErrAlign, 0},
		{[]string{"sd x0 x0 1028"}, 0, api.ErrAlign, 0},
		{[]string{"sh x0 x0 -1"}, 0, api.ErrAlign, 0},
		{[]string{"addi x5 x0 2047", "sd x5 x0 1"}, 1, api.ErrOut, 4},
		{[]string{"addi x5 x0 2047", "sb x5 x0 1"}, 1, api.ErrOut, 4},
		{[]string{"addi x5 x0 4", "lr.d x6 x5"}, 1, api.ErrAlign, 4},
		{[]string{"addi x5 x0 4", "sc.d x6 x5 x0"}, 1, api.ErrAlign, 4},
		{[]string{"addi x5 x0 -8", "sc.d x6 x5 x0"}, 1, api.ErrOut, 4},
		{[]string{"addi x5 x0 -8", "sc.w x0 x5 x0"}, 1, api.ErrOut, 4},
		{[]string{"addi x5 x0 2", "amoadd.w x6 x5 x5"}, 1, api.ErrAlign, 4},
		{[]string{"addi x5 x0 -4", "amoadd.w x6 x5 x5"}, 1, api.ErrOut, 4},
	} {
		m := laid(t, code(c.lines...))
		issues(t, m, 0, c.n)
		do(t, m, issue(0))
		if m.Stopped(0) != c.want || m.PC(0) != c.at || m.Issued(0) != c.n || m.Open(0) != 0 {
			t.Errorf("%q: %d at %x behind %d, not %d", c.lines, int(m.Stopped(0)), m.PC(0), m.Issued(0), int(c.want))
		}
		refuses(t, m, issue(0), api.ErrHalt)
		if l := m.Events(); len(l) != 0 {
			t.Errorf("%q: %v", c.lines, l)
		}
	}
}

// P9.2: one hart's stop leaves the others.
func TestStopsAlone(t *testing.T) {
	m := laid(t, code("ebreak"), code("addi x5 x0 1"))
	do(t, m, issue(0))
	if m.Stopped(1) != api.OK {
		t.Error("both stopped")
	}
	issues(t, m, 1, 1)
}

// P9.4: what an ecall tells, hart by hart as they tell it.
func TestEvents(t *testing.T) {
	m := laid(t,
		code("addi x17 x0 5", "addi x10 x0 6", "addi x11 x0 -7", "ecall", "ecall", "addi x17 x0 0", "ecall"),
		code("addi x17 x0 -1", "ecall"))
	issues(t, m, 0, 4)
	issues(t, m, 1, 2)
	issues(t, m, 0, 2)
	do(t, m, issue(0))
	const minus7, minus1 = 0xfffffffffffffff9, 0xffffffffffffffff
	want := []machine.Event{{0, 5, 6, minus7}, {1, minus1, 1, 0}, {0, 5, 6, minus7}}
	if l := m.Events(); !slices.Equal(l, want) {
		t.Errorf("%v, not %v", l, want)
	}
	if m.Stopped(0) != api.ErrHalt || m.PC(0) != 24 || m.Issued(0) != 6 || m.PC(1) != between+8 {
		t.Errorf("%d at %d behind %d", int(m.Stopped(0)), m.PC(0), m.Issued(0))
	}
	l := m.Events()
	l[0].Code = 99
	if m.Events()[0].Code != 5 {
		t.Error("the list of events is shared")
	}
}

// P9.2: what is reckoned when it is issued, and where it goes on.
func TestReckons(t *testing.T) {
	m := laid(t, code(
		"lui x5 4096", "auipc x6 4096", "jal x7 8", "ebreak", // 0, 4, 8, 12
		"addi x8 x0 29", "jalr x9 x8 0", "ebreak", // 16, 20 (to 28), 24
		"beq x0 x0 8", "ebreak", // 28 (to 36), 32
		"bne x0 x0 8", "mul x11 x8 x8", "div x12 x8 x0", "ebreak")) // 36, 40, 44
	issues(t, m, 0, 9)
	for r, want := range map[int]uint64{5: 4096, 6: 4100, 7: 12, 8: 29, 9: 24, 11: 841, 12: 0xffffffffffffffff} {
		has(t, m, 0, r, want)
	}
	if m.PC(0) != 48 || m.Issued(0) != 9 || m.Open(0) != 0 {
		t.Errorf("PC %d, %d issued", m.PC(0), m.Issued(0))
	}
}

// P9.2: a jalr whose register is the one that it reads goes where that one led.
func TestJalrOfItsOwnRegister(t *testing.T) {
	m := laid(t, code("addi x5 x0 16", "jalr x5 x5 4"))
	issues(t, m, 0, 2)
	has(t, m, 0, 5, 8)
	if m.PC(0) != 20 {
		t.Errorf("PC %d", m.PC(0))
	}
}

// P9.2: what an operation is when it is opened.
func TestOpened(t *testing.T) {
	m := laid(t, code(
		"addi x5 x0 1024", "addi x6 x0 -2", // 0, 4
		"ld x7 x5 8", "sb x5 x6 3", "fence 27", "fence 244", // IDs 0 to 3
		"amoadd.w.aq x8 x5 x6", "lr.d.rl x9 x5", "sc.w.aqrl x11 x5 x6", "sc.d x12 x5 x6", "sd x5 x6 -16")) // 4 to 8
	issues(t, m, 0, 11)
	const all = 0xffffffffffffffff
	want := []api.Op{
		{ID: 0, Load: true, Addr: 1032, Size: 8, Pair: -1},
		{ID: 1, Store: true, Addr: 1027, Size: 1, Stored: 0xfe, Pair: -1},
		{ID: 2, Fence: true, Pred: 1, Succ: 3, Pair: -1}, // 27 is 1 by 16 and 11
		{ID: 3, Fence: true, Pred: 3, Succ: 0, Pair: -1}, // 244 is 15 by 16 and 4
		{ID: 4, Load: true, Store: true, Addr: 1024, Size: 4, Aq: true, Pair: -1},
		{ID: 5, Load: true, Addr: 1024, Size: 8, Rl: true, Pair: -1},
		{ID: 6, Store: true, Addr: 1024, Size: 4, Stored: 0xfffffffe, Aq: true, Rl: true, Pair: 5},
		{ID: 7, Store: true, Addr: 1024, Size: 8, Stored: all - 1, Pair: -1},
		{ID: 8, Store: true, Addr: 1008, Size: 8, Stored: all - 1, Pair: -1},
	}
	l, gmo := m.Trace()
	if len(l) != 1 || len(l[0]) != len(want) || len(gmo) != 0 {
		t.Fatalf("%+v, %d", l, gmo)
	}
	for k, op := range l[0] {
		if !alike(op, want[k]) {
			t.Errorf("%+v, not %+v", op, want[k])
		}
	}
	for _, r := range []int{7, 8, 9, 11, 12} {
		lacks(t, m, 0, r)
	}
	if m.PC(0) != 44 || m.Open(0) != 9 || m.Issued(0) != 11 {
		t.Errorf("PC %d, %d open, %d issued", m.PC(0), m.Open(0), m.Issued(0))
	}
}

// alike tells whether two operations are, lists of nothing being nil or empty.
func alike(a, b api.Op) bool {
	lists := func(op *api.Op) []*[]int { return []*[]int{&op.From, &op.Addrs, &op.Datas, &op.Ctrls} }
	for k, l := range lists(&a) {
		if !slices.Equal(*l, *lists(&b)[k]) {
			return false
		}
	}
	return same(a, b)
}

// same tells whether two operations are, but for their lists.
func same(a, b api.Op) bool {
	return a.ID == b.ID && a.Load == b.Load && a.Store == b.Store && a.Fence == b.Fence &&
		a.Addr == b.Addr && a.Size == b.Size && a.Aq == b.Aq && a.Rl == b.Rl &&
		a.Pred == b.Pred && a.Succ == b.Succ && a.Value == b.Value && a.Stored == b.Stored && a.Pair == b.Pair
}

// P9.2: IDs go over all harts, as operations are issued.
func TestIDs(t *testing.T) {
	two := code("sd x0 x0 1024", "fence 17", "sd x0 x0 1032", "ld x5 x0 1040")
	m := laid(t, two, two)
	for _, h := range []int{0, 1, 1, 0, 0, 1, 1, 0} {
		issues(t, m, h, 1)
	}
	l, _ := m.Trace()
	for h, want := range [][]int{{0, 3, 4, 7}, {1, 2, 5, 6}} {
		var ids []int
		for _, op := range l[h] {
			ids = append(ids, op.ID)
		}
		if !slices.Equal(ids, want) {
			t.Errorf("hart %d: %d, not %d", h, ids, want)
		}
	}
}

// P9.2: the Pair of an sc is the last lr with no sc between.
func TestPairs(t *testing.T) {
	m := laid(t, code(
		"addi x5 x0 1024", "addi x6 x0 1032",
		"sc.d x0 x5 x0",            // 0: none
		"lr.d x0 x5", "lr.w x0 x6", // 1, 2
		"sc.d x0 x5 x0",                                    // 3: 2, though that one is at another place
		"sc.d x0 x5 x0",                                    // 4: none, with an sc between
		"lr.d x0 x5", "amoadd.d x0 x5 x5", "sd x0 x0 1024", // 5, 6, 7
		"sc.d x0 x5 x0"), // 8: 5
		code("sc.d x0 x0 x0")) // 9: none of its own hart's
	issues(t, m, 0, 11)
	issues(t, m, 1, 1)
	for k, want := range []int{-1, -1, -1, 2, -1, -1, -1, -1, 5} {
		if op := operation(t, m, 0, k); op.Pair != want {
			t.Errorf("operation %d: pair %d, not %d", k, op.Pair, want)
		}
	}
	if op := operation(t, m, 1, 0); op.Pair != -1 {
		t.Errorf("pair %d", op.Pair)
	}
}
