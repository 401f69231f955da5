package machine_test

import (
	"slices"
	"testing"

	"postbag/api"
)

// hung does a hart's code, performing what it may as soon as it may, and tells its operations.
func hung(t *testing.T, lines ...string) []api.Op {
	t.Helper()
	m := laid(t, code(append(lines, "ebreak")...))
	for m.Stopped(0) == api.OK || m.Open(0) > 0 {
		if m.Open(0) > 0 {
			do(t, m, perform(0, 0))
			continue
		}
		do(t, m, issue(0))
	}
	if m.Stopped(0) != api.ErrHalt {
		t.Fatalf("stopped at %d: %d", m.PC(0), int(m.Stopped(0)))
	}
	l, _ := m.Trace()
	return l[0]
}

// hangs tells that an operation hangs on just these.
func hangs(t *testing.T, op api.Op, addrs, datas, ctrls []int) {
	t.Helper()
	if !slices.Equal(op.Addrs, addrs) || !slices.Equal(op.Datas, datas) || !slices.Equal(op.Ctrls, ctrls) {
		t.Errorf("operation %d: %d, %d, %d, not %d, %d, %d", op.ID, op.Addrs, op.Datas, op.Ctrls, addrs, datas, ctrls)
	}
}

// P9.2: addresses hang on Rs1, data on Rs2, of each kind of operation.
func TestHangs(t *testing.T) {
	l := hung(t,
		"ld x5 x0 1024", "ld x6 x0 1032", // 0, 1
		"ld x7 x5 1024", "sd x5 x6 1024", "sd x6 x5 1032", "sd x5 x5 1024", // 2 to 5
		"addi x8 x5 1032", "amoadd.d x9 x8 x6", "lr.d x11 x8", "sc.d x12 x8 x6", "fence 51", "sd x0 x0 1024", // 6 to 10
		"ld x0 x8 0", "ld x13 x0 1024") // 11, 12
	for k, want := range [][2][]int{{}, {}, {{0}, nil}, {{0}, {1}}, {{1}, {0}}, {{0}, {0}}, {{0}, {1}}, {{0}, nil}, {{0}, {1}}, {}, {}, {{0}, nil}, {}} {
		hangs(t, l[k], want[0], want[1], nil)
	}
}

// P9.2: a register that was reckoned hangs on all that those hang on that were read, rising, each once.
func TestHangsThrough(t *testing.T) {
	l := hung(t,
		"ld x5 x0 1024", "ld x6 x0 1032", "ld x7 x0 1040", // 0, 1, 2
		"add x8 x7 x5", "sd x0 x8 1048", // 3: 0, 2
		"add x9 x8 x5", "sd x0 x9 1048", // 4: 0, 2
		"add x9 x6 x9", "sd x0 x9 1048", // 5: 0, 1, 2
		"sub x11 x9 x9", "sd x11 x0 1048", // 6: 0, 1, 2, though it is 0 for sure
		"addiw x12 x6 3", "slli x12 x12 2", "mul x12 x12 x0", "sd x12 x7 1048", // 7: 1 and 2
		"addi x9 x0 1", "sd x0 x9 1048", // 8: none any more
		"ld x9 x11 1024", "sd x0 x9 1048") // 9, then 10: 9, and nothing ahead of it
	for k, want := range map[int][2][]int{
		3: {nil, {0, 2}}, 4: {nil, {0, 2}}, 5: {nil, {0, 1, 2}}, 6: {{0, 1, 2}, nil}, 7: {{1}, {2}},
		8: {}, 9: {{0, 1, 2}, nil}, 10: {nil, {9}},
	} {
		hangs(t, l[k], want[0], want[1], nil)
	}
}

// P9.2: what hangs on none: register 0, and what lui, auipc, jal, jalr or sc set.
func TestHangsOnNone(t *testing.T) {
	l := hung(t,
		"ld x5 x0 1024", "sd x0 x5 1032", // 0, 1
		"lui x5 0", "sd x0 x5 1032", // 2
		"ld x5 x0 1024", "auipc x5 0", "sd x0 x5 1032", // 3, 4
		"ld x5 x0 1024", "jal x5 4", "sd x0 x5 1032", // 5, 6
		"ld x5 x0 1024", "sc.d x5 x0 x0", "sd x0 x5 1032", // 7, (8), 9
		"ld x5 x0 1024", "add x0 x5 x5", "sd x0 x0 1032", // 10, 11
		"ld x5 x0 1024", "jalr x5 x5 72", "sd x0 x5 1032") // 12, 13
	k := 0
	for _, op := range l {
		if op.Store {
			want := [3][]int{}
			switch op.ID {
			case 1:
				want[1] = []int{0}
			case 13:
				want[2] = []int{12}
			}
			hangs(t, op, want[0], want[1], want[2])
			k++
		}
	}
	if k != 7 {
		t.Errorf("%d stores: %+v", k, l)
	}
}

// P9.2: what was loaded hangs on its load, lr and amo among them, and on nothing that hangs on.
func TestHangsOnTheLoad(t *testing.T) {
	l := hung(t,
		"ld x5 x0 1024", "ld x6 x5 1024", "sd x0 x6 1032", // 0, 1, 2: 1
		"addi x7 x5 1024", "amoswap.w x8 x7 x6", "sd x0 x8 1032", // 3, 4: 3
		"lr.w x9 x7", "sd x0 x9 1032", // 5, 6: 5
		"ld x5 x5 1032", "sd x5 x0 1032") // 7, 8: 7
	for k, want := range map[int][2][]int{1: {{0}, nil}, 2: {nil, {1}}, 3: {{0}, {1}}, 4: {nil, {3}}, 5: {{0}, nil}, 6: {nil, {5}}, 7: {{0}, nil}, 8: {{7}, nil}} {
		hangs(t, l[k], want[0], want[1], nil)
	}
}

// P9.2: all behind a branch or a jalr hangs on what those read, taken or not, fences too.
func TestCtrls(t *testing.T) {
	l := hung(t,
		"ld x5 x0 1024", "ld x6 x0 1032", "ld x7 x0 1040", "sd x0 x0 1048", // 0 to 3
		"bne x6 x0 8", "ld x8 x0 1024", "sd x0 x5 1048", // 4, 5: 1
		"beq x7 x6 8", "ebreak", "fence 51", "sd x5 x0 1048", // 6, 7: 1, 2
		"jalr x9 x5 56", "ebreak", "ebreak", // to 14
		"sd x0 x9 1048", "lr.d x11 x9", // the link hangs on none
	)
	if len(l) < 9 {
		t.Fatalf("%+v", l)
	}
	for k, want := range [][3][]int{{}, {}, {}, {}, {nil, nil, {1}}, {nil, {0}, {1}}, {nil, nil, {1, 2}}, {{0}, nil, {1, 2}}, {nil, nil, {0, 1, 2}}} {
		hangs(t, l[k], want[0], want[1], want[2])
	}
	if !l[6].Fence {
		t.Errorf("%+v", l[6])
	}
}

// P9.2: branches on what hangs on nothing, and jal, ask nothing; one that asks twice counts once.
func TestCtrlsOfNone(t *testing.T) {
	l := hung(t,
		"ld x5 x0 1024", "addi x6 x0 1", "beq x6 x0 8", "jal x7 4", "sd x0 x0 1032", // 0, 1
		"bne x5 x5 8", "bne x5 x0 8", "add x8 x5 x5", "bltu x8 x5 8", "sd x0 x0 1032", // 2: 0
		"jalr x0 x0 44", "sd x0 x5 1032") // 3
	for k, want := range [][3][]int{{}, {}, {nil, nil, {0}}, {nil, {0}, {0}}} {
		hangs(t, l[k], want[0], want[1], want[2])
	}
}

// P9.2: what one hart's branch read is nothing to another hart.
func TestCtrlsOfOneHart(t *testing.T) {
	lines := code("ld x5 x0 1024", "beq x5 x0 8", "ebreak", "sd x0 x0 1032")
	m := laid(t, lines, lines)
	for h := range 2 {
		issues(t, m, h, 1)
		do(t, m, perform(h, 0))
	}
	for h := range 2 {
		issues(t, m, h, 2)
		hangs(t, operation(t, m, h, 1), nil, nil, []int{h})
	}
}

// P9.2: what an operation hung on when it was issued it hangs on for good,
// whatever is asked behind it, and in whichever order.
func TestCtrlsStay(t *testing.T) {
	l := hung(t,
		"ld x5 x0 1024", "ld x6 x0 1032", "ld x7 x0 1040", // 0, 1, 2
		"bne x7 x0 8", "sd x0 x0 1048", "bne x5 x0 8", "sd x0 x0 1048", "bne x6 x0 8", "sd x0 x0 1048") // 3, 4, 5
	for k, want := range [][]int{nil, nil, nil, {2}, {0, 2}, {0, 1, 2}} {
		hangs(t, l[k], nil, nil, want)
	}
}
