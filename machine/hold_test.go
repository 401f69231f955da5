package machine_test

import (
	"slices"
	"testing"

	"postbag/api"
	"postbag/machine"
)

// held is a machine whose hart 0 has a hold on the word at 1024, and an sc to it
// open, behind which another lr and sc stand. Hart 1 does what the lines say.
func held(t *testing.T, lines ...string) *machine.Machine {
	t.Helper()
	m := laid(t, code("addi x5 x0 1024", "addi x6 x0 6", "lr.d x7 x5", "sc.d x8 x5 x6", "addi x6 x0 9", "sd x0 x6 1040"), code(lines...))
	issues(t, m, 0, 6)
	do(t, m, perform(0, 0))
	issues(t, m, 1, len(lines))
	return m
}

// fared tells whether hart 0's sc stores.
func fared(t *testing.T, m *machine.Machine, stores bool) {
	t.Helper()
	_, was := m.Last()
	before := word(t, m, data)
	ops, gmo := m.Trace()
	do(t, m, perform(0, 0))
	op, n := m.Last()
	if !stores {
		has(t, m, 0, 8, 1)
		if word(t, m, data) != before || n != was || op.ID == 1 {
			t.Errorf("it is in the memory: %x, %+v", word(t, m, data), op)
		}
		l, now := m.Trace()
		if len(l[0]) != len(ops[0])-1 || !slices.Equal(now, gmo) || l[0][1].ID == 1 {
			t.Errorf("it is among the operations: %+v", l[0])
		}
		return
	}
	has(t, m, 0, 8, 0)
	if word(t, m, data) != 6 || n != was+1 || op.ID != 1 || op.Stored != 6 || op.Pair != 0 {
		t.Errorf("it is not in the memory: %x, %+v", word(t, m, data), op)
	}
	if l, now := m.Trace(); len(l[0]) != len(ops[0]) || !slices.Equal(now, append(gmo, 1)) {
		t.Errorf("it is not among the operations: %+v", l[0])
	}
}

// P9.2: an sc stores, as long as nothing ended the hold.
func TestHoldStands(t *testing.T) {
	m := held(t)
	lacks(t, m, 0, 8)
	fared(t, m, true)
}

// P9.2: which operations of another hart's end a hold: stores to one of its bytes, once they perform.
func TestHoldEnds(t *testing.T) {
	for _, c := range []struct {
		line string
		ends bool
	}{
		{"sd x0 x0 1024", true}, {"sb x0 x0 1024", true}, {"sb x0 x0 1031", true}, {"sw x0 x0 1028", true},
		{"sb x0 x0 1032", false}, {"sd x0 x0 1016", false}, {"sb x0 x0 1023", false},
		{"amoadd.d x9 x5 x0", true}, {"amoor.w x9 x6 x0", true},
		{"ld x9 x0 1024", false}, {"lr.d x9 x5", false}, {"lb x9 x0 1024", false},
		{"sc.d x9 x5 x0", false}, // it has no hold itself, and stores nothing
	} {
		m := held(t, "addi x5 x0 1024", "addi x6 x0 1028", c.line)
		fared(t, m.Clone(), true) // while it is open
		do(t, m, perform(1, 0))
		fared(t, m, !c.ends)
	}
}

// P9.2: another hart's sc ends a hold if it stores, and not if it fails.
func TestHoldEndsByAnSc(t *testing.T) {
	for _, kind := range []int{machine.Perform, machine.Fail} {
		m := held(t, "addi x5 x0 1024", "lr.d x9 x5", "sc.d x8 x5 x0")
		do(t, m, perform(1, 0), machine.Choice{Hart: 1, Kind: kind})
		fared(t, m, kind == machine.Fail)
	}
}

// P9.2: stores and amos of its own leave a hold.
func TestHoldOfItsOwnStores(t *testing.T) {
	m := laid(t, code("addi x5 x0 1024", "addi x6 x0 6", "lr.d x7 x5", "sd x0 x6 1024", "amoadd.d x9 x5 x6", "sc.d x8 x5 x6"))
	issues(t, m, 0, 6)
	for range 4 {
		do(t, m, perform(0, 0))
	}
	has(t, m, 0, 9, 6)
	has(t, m, 0, 8, 0)
}

// P9.2: any sc of its own ends a hold, whether it stores or fails.
func TestHoldEndsByItsOwnSc(t *testing.T) {
	for _, c := range []struct {
		kind int
		want uint64
	}{{machine.Perform, 0}, {machine.Fail, 1}} {
		m := laid(t, code("addi x5 x0 1024", "addi x6 x0 6", "lr.d x7 x5", "sc.d x8 x5 x6", "sc.d x9 x5 x6"))
		issues(t, m, 0, 5)
		do(t, m, perform(0, 0), machine.Choice{Kind: c.kind}, perform(0, 0))
		has(t, m, 0, 8, c.want)
		has(t, m, 0, 9, 1)
		want := []int{0, 1}
		if c.kind == machine.Fail {
			want = []int{0}
		}
		if _, gmo := m.Trace(); !slices.Equal(gmo, want) {
			t.Errorf("order %d, not %d", gmo, want)
		}
	}
}

// P9.2: an sc ends a hold of a later lr, too, which performed ahead of it.
func TestHoldOfALaterLr(t *testing.T) {
	lines := code("addi x5 x0 1024", "addi x6 x0 1032", "lr.d x7 x5", "sc.d x8 x5 x5", "lr.d x9 x6", "sc.d x11 x6 x5")
	for _, c := range []struct {
		ahead         bool // the later lr, of the first sc
		first, second uint64
	}{{false, 0, 0}, {true, 1, 1}} {
		m := laid(t, lines)
		issues(t, m, 0, 6)
		do(t, m, perform(0, 0))
		if c.ahead {
			do(t, m, perform(0, 1), perform(0, 0))
		} else {
			do(t, m, perform(0, 0), perform(0, 0))
		}
		do(t, m, perform(0, 0))
		has(t, m, 0, 8, c.first)
		has(t, m, 0, 11, c.second)
	}
}

// P9.2: an sc without a hold, at another place, of another size, or of a hold
// that is not its Pair's does not store; and the hold is ended.
func TestHoldOfAnother(t *testing.T) {
	for _, c := range []struct {
		lines  []string
		stores uint64
	}{
		{[]string{"sc.d x8 x5 x6"}, 1},
		{[]string{"lr.d x7 x5", "sc.d x8 x5 x6"}, 0},
		{[]string{"lr.w x7 x5", "sc.w x8 x5 x6"}, 0},
		{[]string{"lr.d x7 x5", "sc.d x8 x6 x6"}, 1},
		{[]string{"lr.d x7 x5", "sc.w x8 x5 x6"}, 1},
		{[]string{"lr.w x7 x5", "sc.d x8 x5 x6"}, 1},
		{[]string{"lr.d x7 x5", "lr.d x9 x6", "sc.d x8 x6 x6"}, 0},
		{[]string{"lr.d x7 x5", "lr.d x9 x6", "sc.d x8 x5 x6"}, 1},
		{[]string{"lr.d x7 x5", "sc.d x9 x6 x6", "sc.d x8 x5 x6"}, 1},
		{[]string{"lr.d x7 x6", "sc.d x9 x6 x6", "lr.d x7 x5", "sc.d x8 x5 x6"}, 0},
	} {
		m := laid(t, code(append([]string{"addi x5 x0 1024", "addi x6 x0 1032"}, c.lines...)...))
		issues(t, m, 0, 2)
		for range c.lines {
			issues(t, m, 0, 1)
			do(t, m, perform(0, 0))
		}
		has(t, m, 0, 8, c.stores)
	}
}

// P9.2: an lr that performs behind a later one takes the hold from it.
func TestHoldIsTheLast(t *testing.T) {
	m := laid(t, code("addi x5 x0 1024", "addi x6 x0 1032", "lr.d x7 x5", "lr.d x8 x6", "sc.d x9 x6 x6"))
	issues(t, m, 0, 5)
	do(t, m, perform(0, 1), perform(0, 0), perform(0, 0))
	has(t, m, 0, 9, 1)
}

// P9.2: an lr has bytes of open stores ahead, and holds those bytes even so.
func TestHoldOfForwarded(t *testing.T) {
	lines := code("addi x5 x0 1024", "addi x6 x0 6", "sd x0 x6 1024", "lr.d x7 x5", "sc.d x8 x5 x5")
	for _, ended := range []bool{false, true} {
		m := laid(t, lines, code("sd x0 x0 1024"))
		issues(t, m, 0, 5)
		issues(t, m, 1, 1)
		do(t, m, perform(0, 1))
		has(t, m, 0, 7, 6)
		if ended {
			do(t, m, perform(1, 0))
		}
		refuses(t, m, perform(0, 1), api.ErrWait)
		do(t, m, perform(0, 0), perform(0, 0))
		want := uint64(0)
		if ended {
			want = 1
		}
		has(t, m, 0, 8, want)
	}
}

// P9.2: Fail fails though the hold stands, and ends it; register 0 gets nothing.
func TestFail(t *testing.T) {
	m := held(t)
	do(t, m, fail(0, 0))
	has(t, m, 0, 8, 1)
	l, gmo := m.Trace()
	if op, n := m.Last(); n != 1 || op.ID != 0 || len(gmo) != 1 || len(l[0]) != 2 || l[0][1].ID != 2 {
		t.Errorf("%+v of %d, %d, %+v", op, n, gmo, l)
	}
	if word(t, m, data) != 0 || m.Issued(0) != 6 || m.Open(0) != 1 {
		t.Errorf("%x, %d issued, %d open", word(t, m, data), m.Issued(0), m.Open(0))
	}
	n := laid(t, code("addi x5 x0 1024", "lr.d x0 x5", "sc.d x0 x5 x5"))
	issues(t, n, 0, 3)
	do(t, n, perform(0, 0), fail(0, 0))
	has(t, n, 0, 0, 0)
}

// P9.2: behind an sc that did not store fences pass, IDs go on, and what it stood in the way of performs.
func TestBehindAFailedSc(t *testing.T) {
	m := laid(t, code("addi x5 x0 1024", "sc.d.aq x8 x5 x0", "fence 51", "ld x7 x0 1024", "sd x0 x5 1032"))
	issues(t, m, 0, 4)
	refuses(t, m, perform(0, 2), api.ErrWait)
	do(t, m, perform(0, 0))
	if m.Open(0) != 1 {
		t.Errorf("%d are open", m.Open(0))
	}
	issues(t, m, 0, 1)
	do(t, m, perform(0, 0), perform(0, 0))
	l, gmo := m.Trace()
	if len(l[0]) != 3 || !l[0][0].Fence || !slices.Equal(gmo, []int{2, 3}) {
		t.Errorf("%+v, %d", l, gmo)
	}
}
