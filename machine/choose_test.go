package machine_test

import (
	"math"
	"slices"
	"testing"

	"postbag/api"
	"postbag/machine"
)

// P9.2: each error of a choice, those that come first where several apply.
func TestChooseErrors(t *testing.T) {
	m := laid(t, code("sd x0 x0 1024", "fence 51", "ld x5 x0 1024", "lr.d x6 x7", "addi x5 x5 1"), code("ebreak"))
	issues(t, m, 0, 3)
	do(t, m, issue(1))
	for _, h := range []int{-1, 2, 3, math.MaxInt, math.MinInt} {
		for _, kind := range []int{machine.Issue, machine.Perform, machine.Fail, 9} {
			refuses(t, m, machine.Choice{Hart: h, Kind: kind, N: 99}, api.ErrArg)
		}
	}
	for _, kind := range []int{-1, 3, math.MaxInt, math.MinInt} {
		refuses(t, m, machine.Choice{Kind: kind}, api.ErrArg)
		refuses(t, m, machine.Choice{Hart: 1, Kind: kind, N: -1}, api.ErrArg)
	}
	refuses(t, m, issue(1), api.ErrHalt)
	for _, n := range []int{-1, 1, 3, 4, math.MaxInt, math.MinInt} {
		refuses(t, m, perform(0, n), api.ErrChoice) // 1 is the fence's place
	}
	for _, n := range []int{-1, 0, 1, 2, 3, math.MinInt} {
		refuses(t, m, fail(0, n), api.ErrChoice) // 2 is a load's, and something stands in its way
	}
	refuses(t, m, perform(1, 0), api.ErrChoice)
	refuses(t, m, perform(0, 2), api.ErrWait)
	do(t, m, perform(0, 0))
	if m.Open(0) != 1 {
		t.Errorf("%d are open", m.Open(0))
	}
	do(t, m, perform(0, 0))
}

// P9.2: what N an issue has counts for nothing.
func TestIssueOfAnyN(t *testing.T) {
	m := laid(t, code("addi x5 x0 1", "addi x5 x5 1", "addi x5 x5 1"))
	for _, n := range []int{-1, 7, math.MinInt} {
		do(t, m, machine.Choice{N: n})
	}
	has(t, m, 0, 5, 3)
}

// P9.2: what waits for a stopped hart's operations may still perform.
func TestPerformOfAStoppedHart(t *testing.T) {
	m := laid(t, code("addi x5 x0 3", "sd x0 x5 1024", "ld x6 x0 1032", "ebreak"))
	issues(t, m, 0, 3)
	do(t, m, issue(0))
	if m.Stopped(0) != api.ErrHalt || m.Open(0) != 2 {
		t.Errorf("%d, %d open", int(m.Stopped(0)), m.Open(0))
	}
	refuses(t, m, issue(0), api.ErrHalt)
	do(t, m, perform(0, 1), perform(0, 0))
	has(t, m, 0, 6, 0)
	if word(t, m, data) != 3 || len(m.Choices()) != 0 {
		t.Error("the store is missing")
	}
}

// P9.2: at MaxPending open operations each instruction waits, whatever it is.
func TestMaxPending(t *testing.T) {
	for _, last := range []string{"addi x5 x0 1", "sd x0 x0 1024", "fence 0", "jal x0 8", "ebreak", "ecall"} {
		var lines []string
		for range api.MaxPending {
			lines = append(lines, "sd x0 x0 1024")
		}
		m := laid(t, code(append(lines, last)...))
		issues(t, m, 0, api.MaxPending)
		if m.Open(0) != api.MaxPending {
			t.Fatalf("%d are open", m.Open(0))
		}
		refuses(t, m, issue(0), api.ErrWait)
		do(t, m, perform(0, 0))
		if last == "ecall" {
			refuses(t, m, issue(0), api.ErrWait)
			continue
		}
		do(t, m, issue(0))
	}
}

// P9.2: fences are open operations, too: with as many as MaxPending an instruction waits.
func TestMaxPendingOfFences(t *testing.T) {
	lines := []string{"sd x0 x0 1024"}
	for range api.MaxPending {
		lines = append(lines, "fence 0")
	}
	m := laid(t, code(lines...))
	issues(t, m, 0, api.MaxPending)
	refuses(t, m, issue(0), api.ErrWait)
	do(t, m, perform(0, 0))
	if m.Open(0) != 0 {
		t.Errorf("%d are open", m.Open(0))
	}
	issues(t, m, 0, 1)
}

// P9.2: where there is no instruction, none waits.
func TestNoInstructionWaits(t *testing.T) {
	var lines []string
	for range api.MaxPending {
		lines = append(lines, "sd x0 x0 1024")
	}
	m := laid(t, code(lines...)) // 0 stands behind it
	issues(t, m, 0, api.MaxPending)
	do(t, m, issue(0))
	if m.Stopped(0) != api.ErrIllegal || m.Open(0) != api.MaxPending {
		t.Errorf("%d, %d open", int(m.Stopped(0)), m.Open(0))
	}
}

// P9.3: the choices, hart by hart, issues ahead of places.
func TestChoices(t *testing.T) {
	m := laid(t,
		code("sd x0 x0 1024", "ld x5 x0 1032", "sc.d x6 x10 x0", "addi x5 x5 1"),
		code("ld x5 x0 1024", "fence 51", "ld x6 x0 1032", "ebreak"),
		code("ebreak"))
	wants := func(want ...machine.Choice) {
		t.Helper()
		if l := m.Choices(); !slices.Equal(l, want) {
			t.Errorf("%v, not %v", l, want)
		}
	}
	wants(issue(0), issue(1), issue(2))
	issues(t, m, 0, 3)
	wants(perform(0, 0), perform(0, 1), perform(0, 2), fail(0, 2), issue(1), issue(2))
	do(t, m, issue(2))
	issues(t, m, 1, 3)
	wants(perform(0, 0), perform(0, 1), perform(0, 2), fail(0, 2), issue(1), perform(1, 0))
	do(t, m, perform(0, 1), issue(1))
	wants(issue(0), perform(0, 0), perform(0, 1), fail(0, 1), perform(1, 0))
	do(t, m, perform(1, 0))
	wants(issue(0), perform(0, 0), perform(0, 1), fail(0, 1), perform(1, 0))
}

// P9.3: an sc in whose way something stands is no choice, neither by Perform nor by Fail.
func TestChoicesOfAnSc(t *testing.T) {
	m := laid(t, code("sd x0 x0 0", "sc.d x6 x0 x0"))
	issues(t, m, 0, 2)
	refuses(t, m, perform(0, 1), api.ErrWait)
	refuses(t, m, fail(0, 1), api.ErrWait)
	refuses(t, m, fail(0, 0), api.ErrChoice)
}

// P9.3: Pick does the choice at a place, round and round, from both sides.
func TestPick(t *testing.T) {
	m := laid(t, code("sd x0 x0 1024", "ld x5 x0 1032", "sc.d x6 x10 x0", "ebreak"), code("addi x5 x0 1"))
	issues(t, m, 0, 3)
	l := m.Choices()
	for n := -2*len(l) - 1; n <= 2*len(l); n++ {
		c := m.Clone()
		at := n
		if n < 0 {
			at = -(n + 1)
		}
		want := l[at%len(l)]
		got, e := c.Pick(n)
		d := m.Clone()
		do(t, d, want)
		if got != want || e != api.OK || all(c) != all(d) {
			t.Errorf("Pick %d: %+v, error %d, not %+v", n, got, int(e), want)
		}
	}
	for n, at := range map[int]int{math.MaxInt: math.MaxInt % len(l), math.MinInt: math.MaxInt % len(l)} {
		if c, e := m.Clone().Pick(n); c != l[at] || e != api.OK {
			t.Errorf("Pick %d: %+v, error %d", n, c, int(e))
		}
	}
}

// P9.3: where there is no choice.
func TestPickOfNone(t *testing.T) {
	m := laid(t, code("ebreak"))
	do(t, m, issue(0))
	for _, n := range []int{0, 1, -1, math.MinInt, math.MaxInt} {
		was := all(m)
		if c, e := m.Pick(n); c != (machine.Choice{}) || e != api.ErrHalt || all(m) != was {
			t.Errorf("Pick %d: %+v, error %d", n, c, int(e))
		}
	}
	if l := m.Choices(); len(l) != 0 {
		t.Errorf("choices: %v", l)
	}
}
