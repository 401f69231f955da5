package hart_test

import (
	"math"
	"testing"

	"postbag/api"
	"postbag/hart"
	"postbag/memory"
)

// Example 1.
func TestRunOfTheExample(t *testing.T) {
	h, n, e := hart.Run(hart.Hart{}, laid(t, "addi x1 x0 5", "add x2 x1 x1", "ecall"), 1000)
	if want := (hart.Hart{PC: 8, X: [32]uint64{1: 5, 2: 10}}); h != want || n != 2 || e != api.ErrHalt {
		t.Errorf("%+v, %d and %d", h, n, int(e))
	}
}

// sum is code that sums 10 to 1 into x2, stores and loads it, adds to it by lr and sc, and halts behind 39 steps.
var sum = []string{
	"addi x1 x0 10", "add x2 x2 x1", "addi x1 x1 -1", "bne x1 x0 -8",
	"sd x0 x2 128", "addi x5 x0 128", "lr.d x3 x5", "addi x3 x3 1", "sc.d x4 x5 x3", "bne x4 x0 -12", "amoadd.w x6 x5 x3", "jal x7 8", "ebreak", "ecall",
}

const sumSteps = 39

// P6.2: steps are done until one has an error, or as many as may be are done.
func TestRunCountsSteps(t *testing.T) {
	for _, most := range []int{sumSteps, sumSteps + 1, sumSteps + 2, 1000, 1 << 32, math.MaxInt} {
		m := laid(t, sum...)
		h, n, e := hart.Run(hart.Hart{}, m, most)
		want := api.ErrHalt
		if most == sumSteps {
			want = api.OK
		}
		x := [32]uint64{2: 55, 3: 56, 5: 128, 6: 56, 7: 48}
		if h != (hart.Hart{PC: 52, X: x}) || n != sumSteps || e != want {
			t.Errorf("most %d: %+v, %d and %d", most, h, n, int(e))
		}
		if v, _ := m.Load(128, 8); v != 112 {
			t.Errorf("most %d: %d", most, v)
		}
	}
}

// P6.2: Run does what as many Steps do.
func TestRunIsSteps(t *testing.T) {
	h, m := with(), laid(t, sum...)
	for most := range sumSteps + 1 {
		own := laid(t, sum...)
		got, n, e := hart.Run(with(), own, most)
		if got != h || n != most || e != api.OK || whole(own) != whole(m) {
			t.Fatalf("%d steps: %+v, %d and %d, not %+v", most, got, n, int(e), h)
		}
		if most < sumSteps {
			h = step(t, h, m)
		}
	}
}

// P6.2: of no steps, or of fewer than 0, nothing is done, and there is no error.
func TestRunOfNoSteps(t *testing.T) {
	h := with(1, 2)
	h.PC, h.Held, h.Address, h.Size = 3, true, 64, 4
	for _, most := range []int{0, -1, -2, math.MinInt} {
		for _, m := range []*memory.Memory{laid(t, sum...), memory.New(0), nil, {}} {
			was := whole(m)
			if got, n, e := hart.Run(h, m, most); got != h || n != 0 || e != api.OK || whole(m) != was {
				t.Errorf("most %d of %d bytes: %+v, %d and %d", most, m.Len(), got, n, int(e))
			}
		}
	}
}

// P6.2: each error of a step is Run's, with the hart as it was ahead of that step.
func TestRunStopsAtErrors(t *testing.T) {
	for _, c := range []struct {
		line string
		pc   uint64
		e    api.Errno
	}{
		{"ecall", 4, api.ErrHalt},
		{"ebreak", 4, api.ErrHalt},
		{"ld x2 x1 1", 4, api.ErrAlign},
		{"ld x1 x0 256", 4, api.ErrOut},
		{"sd x1 x1 -136", 4, api.ErrOut},
		{"lr.w x1 x5", 4, api.ErrAlign},
		{"jal x9 2", 6, api.ErrAlign},
		{"jal x9 1024", 1028, api.ErrOut},
		{"jalr x9 x1 2", 130, api.ErrAlign},
		{"jalr x9 x0 -4", all - 3, api.ErrOut},
		{"addi x9 x0 8", 8, api.ErrIllegal},
	} {
		m := laid(t, "addi x1 x0 128", c.line)
		start := with(0, 0, 0, 0, 2)
		h, n, e := hart.Run(start, m, 1000)
		steps := 1
		want := start
		want.X[0], want.X[1], want.PC = 0, 128, c.pc
		if c.pc != 4 {
			steps, want.X[9] = 2, 8
		}
		if h != want || n != steps || e != c.e {
			t.Errorf("%s: %+v, %d and %d, not %+v", c.line, h, n, int(e), want)
		}
	}
	for _, m := range []*memory.Memory{nil, {}} {
		if h, n, e := hart.Run(with(1, 2), m, 3); h != with(1, 2) || n != 0 || e != api.ErrNil {
			t.Errorf("no memory: %+v, %d and %d", h, n, int(e))
		}
	}
	if h, n, e := hart.Run(with(1, 2), laid(t, "ecall"), 3); h != with(1, 2) || n != 0 || e != api.ErrHalt {
		t.Errorf("ecall alone: %+v, %d and %d", h, n, int(e))
	}
}

// P6.4: Run of some steps, and of more behind, is Run of both together.
func TestRunInParts(t *testing.T) {
	for both := range sumSteps + 5 {
		together := laid(t, sum...)
		want, steps, err := hart.Run(with(), together, both)
		for first := range both + 1 {
			m := laid(t, sum...)
			h, n, _ := hart.Run(with(), m, first)
			h, k, e := hart.Run(h, m, both-first)
			if both > first && e != err || h != want || n+k != steps || whole(m) != whole(together) {
				t.Fatalf("%d and %d: %+v, %d and %d, not %+v, %d and %d", first, both-first, h, n+k, int(e), want, steps, int(err))
			}
		}
	}
}

// P6.2: a hart that jumps to where it is ends all the same, however many steps may be done.
func TestRunOfJumpsToThemselves(t *testing.T) {
	for _, line := range []string{"jal x0 0", "jal x9 0", "beq x0 x0 0", "bgeu x2 x0 0", "jalr x0 x1 -124", "jalr x9 x1 -123"} {
		for _, most := range []int{1, 2, 3, 1000, math.MaxInt} {
			m := laid(t, "addi x1 x0 128", line)
			start := with()
			start.Held, start.Address, start.Size = true, 64, 8
			want := start
			want.PC, want.X[0], want.X[1] = 4, 0, 128
			for range min(most-1, 2) {
				want = step(t, want, m)
			}
			if h, n, e := hart.Run(start, m, most); h != want || n != most || e != api.OK {
				t.Errorf("%s, most %d: %+v, %d and %d, not %+v", line, most, h, n, int(e), want)
			}
		}
	}
}

// P6.2: what stores all the time, and is at one place each second step, goes on: it is not taken for one that does nothing.
func TestRunOfLoopsThatStore(t *testing.T) {
	m := laid(t, "amoadd.d x0 x1 x2", "jal x0 -4")
	h, n, e := hart.Run(with(128, 1), m, 2001)
	if v, _ := m.Load(128, 8); v != 1001 || h.PC != 4 || n != 2001 || e != api.OK {
		t.Errorf("%d, %+v, %d and %d", v, h, n, int(e))
	}
}

// P6.1: an instruction is what stands at PC then, stored by the hart itself or not.
func TestRunOfCodeThatIsStored(t *testing.T) {
	m := laid(t, "lw x1 x0 64", "sw x0 x1 8", "ecall", "ebreak")
	lay(t, m, 64, api.Inst{Op: api.OpAddi, Rd: 2, Imm: 77})
	if h, n, e := hart.Run(hart.Hart{}, m, 9); h.X[2] != 77 || h.PC != 12 || n != 3 || e != api.ErrHalt {
		t.Errorf("%+v, %d and %d", h, n, int(e))
	}
}
