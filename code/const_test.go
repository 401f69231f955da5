package code_test

import (
	"math"
	"slices"
	"strings"
	"testing"

	"postbag/api"
	"postbag/code"
	"postbag/hart"
	"postbag/inst"
	"postbag/listing"
	"postbag/memory"
)

// constText is Const's instructions, with " / " between them.
func constText(rd int, v uint64) string {
	return strings.ReplaceAll(strings.TrimSpace(listing.Lines(code.Const(rd, v))), "\n", " / ")
}

// P19.1: the instructions, at the ends of each way to tell a number.
func TestConstTellsTheInstructions(t *testing.T) {
	for _, c := range []struct {
		v    uint64
		want string
	}{
		{0, "addi x5 x0 0"},
		{1, "addi x5 x0 1"},
		{math.MaxUint64, "addi x5 x0 -1"},
		{2047, "addi x5 x0 2047"},
		{2048, "lui x5 4096 / addiw x5 x5 -2048"},
		{4095, "lui x5 4096 / addiw x5 x5 -1"},
		{4096, "lui x5 4096"},
		{4097, "lui x5 4096 / addiw x5 x5 1"},
		{6143, "lui x5 4096 / addiw x5 x5 2047"},
		{6144, "lui x5 8192 / addiw x5 x5 -2048"},
		{neg(2048), "addi x5 x0 -2048"},
		{neg(2049), "lui x5 -4096 / addiw x5 x5 2047"},
		{neg(4096), "lui x5 -4096"},
		{neg(4097), "lui x5 -4096 / addiw x5 x5 -1"},
		{neg(6144), "lui x5 -4096 / addiw x5 x5 -2048"},
		{neg(6145), "lui x5 -8192 / addiw x5 x5 2047"},
		{1<<31 - 4096, "lui x5 2147479552"},
		{1<<31 - 2049, "lui x5 2147479552 / addiw x5 x5 2047"},
		{1<<31 - 2048, "lui x5 -2147483648 / addiw x5 x5 -2048"},
		{1<<31 - 1, "lui x5 -2147483648 / addiw x5 x5 -1"},
		{1 << 31, "lui x5 524288 / slli x5 x5 12"},
		{1<<31 + 1, "lui x5 524288 / slli x5 x5 12 / addi x5 x5 1"},
		{1<<32 - 1, "lui x5 1048576 / slli x5 x5 12 / addi x5 x5 -1"},
		{1 << 32, "lui x5 1048576 / slli x5 x5 12"},
		{neg(1 << 31), "lui x5 -2147483648"},
		{neg(1<<31 - 1), "lui x5 -2147483648 / addiw x5 x5 1"},
		{neg(1<<31 + 1), "lui x5 -524288 / slli x5 x5 12 / addi x5 x5 -1"},
		{neg(1<<31 + 4096), "lui x5 -524288 / addiw x5 x5 -1 / slli x5 x5 12"},
		{0x123456789, "lui x5 1191936 / addiw x5 x5 1110 / slli x5 x5 12 / addi x5 x5 1929"},
		{1 << 40, "lui x5 268435456 / slli x5 x5 12"},
		{1 << 43, "lui x5 524288 / slli x5 x5 12 / slli x5 x5 12"},
		{1 << 63, "lui x5 -134217728 / slli x5 x5 12 / slli x5 x5 12 / slli x5 x5 12"},
		{1<<63 - 1, "lui x5 -134217728 / slli x5 x5 12 / slli x5 x5 12 / slli x5 x5 12 / addi x5 x5 -1"},
		{1<<63 - 2048, "lui x5 -134217728 / slli x5 x5 12 / slli x5 x5 12 / slli x5 x5 12 / addi x5 x5 -2048"},
		{1<<63 - 2049, "lui x5 134217728 / slli x5 x5 12 / slli x5 x5 12 / addi x5 x5 -1 / slli x5 x5 12 / addi x5 x5 2047"},
		{1<<63 + 1, "lui x5 -134217728 / slli x5 x5 12 / slli x5 x5 12 / slli x5 x5 12 / addi x5 x5 1"},
		{1<<63 - 1<<12, "lui x5 134217728 / slli x5 x5 12 / slli x5 x5 12 / addi x5 x5 -1 / slli x5 x5 12"},
		{0x7654321076543210, "lui x5 124076032 / addiw x5 x5 801 / slli x5 x5 12 / addi x5 x5 118 / slli x5 x5 12 / addi x5 x5 1347 / slli x5 x5 12 / addi x5 x5 528"},
		{0xf000f000f000f000, "lui x5 -16773120 / addiw x5 x5 -256 / slli x5 x5 12 / addi x5 x5 240 / slli x5 x5 12 / addi x5 x5 15 / slli x5 x5 12"},
		{0x0008008008008800, "lui x5 134250496 / addiw x5 x5 8 / slli x5 x5 12 / addi x5 x5 9 / slli x5 x5 12 / addi x5 x5 -2048"},
	} {
		if s := constText(5, c.v); s != c.want {
			t.Errorf("%#x:\n%s\nnot\n%s", c.v, s, c.want)
		}
	}
}

// neg is a number below 0.
func neg(n uint64) uint64 { return -n }

// P19.1: nothing of what is no register, nor of register 0.
func TestConstOfRegisters(t *testing.T) {
	for _, rd := range []int{math.MinInt, -32, -1, 0, 32, 33, 1 << 32, 1<<32 + 5, math.MaxInt} {
		for _, v := range []uint64{0, 1, 5000, 1 << 40} {
			if l := code.Const(rd, v); len(l) != 0 {
				t.Errorf("register %d: %v", rd, l)
			}
		}
	}
	for rd := 1; rd <= 31; rd++ {
		if l := code.Const(rd, 1<<40+5); !slices.Equal(l, plainConst(rd, 1<<40+5)) {
			t.Errorf("register %d: %v", rd, l)
		}
	}
}

// numbers are those around powers of two, and thrown ones.
func numbers() []uint64 {
	l := []uint64{0x5555555555555555, 0xaaaaaaaaaaaaaaaa, 0x0800800800800800, 0xf7ff7ff7ff7ff7ff}
	for k := range 64 {
		for _, d := range []uint64{0, 1, 2, 2047, 2048, 2049, 4095, 4096, 6144} {
			l = append(l, 1<<k+d, 1<<k-d, -(1<<k)+d, -(1<<k)-d)
		}
	}
	r := row(3)
	for range 20000 {
		l = append(l, r.number())
	}
	return l
}

// P19.1: of many numbers, held against a plain second telling; all that is told may be.
func TestConstPlainly(t *testing.T) {
	lengths := make([]int, 10)
	for n, v := range numbers() {
		rd := 1 + n%31
		l := code.Const(rd, v)
		if !slices.Equal(l, plainConst(rd, v)) {
			t.Fatalf("%#x: %v", v, l)
		}
		if slices.ContainsFunc(l, func(i api.Inst) bool { return !inst.Good(i) }) {
			t.Fatalf("%#x: %v may not be", v, l)
		}
		lengths[len(l)]++
	}
	for n := 1; n <= 8; n++ {
		if lengths[n] == 0 {
			t.Errorf("no number takes %d", n)
		}
	}
}

// P19.3: run by hart, they give the register the number, and change nothing else but PC.
func TestConstRuns(t *testing.T) {
	r := row(9)
	for n, v := range numbers() {
		rd := 1 + n%31
		h := hart.Hart{PC: 8, Held: true, Address: 16, Size: 8}
		for k := range h.X {
			h.X[k] = r.number() * uint64(min(k, 1))
		}
		m := memory.New(64)
		l := code.Const(rd, v)
		for k, i := range l {
			w, _ := inst.Encode(i)
			m.Store(uint64(8+4*k), 4, uint64(w))
		}
		before, _ := m.Bytes(0, 64)
		got, steps, e := hart.Run(h, m, len(l))
		want := h
		want.X[rd], want.PC = v, uint64(8+4*len(l))
		after, _ := m.Bytes(0, 64)
		if got != want || steps != len(l) || e != api.OK || !slices.Equal(after, before) {
			t.Fatalf("%#x to register %d: %+v, %d steps, error %d", v, rd, got, steps, int(e))
		}
	}
}
