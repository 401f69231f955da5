package hart_test

import (
	"testing"

	"postbag/api"
	"postbag/hart"
	"postbag/inst"
	"postbag/memory"
)

// P6.1: what reckons, loads and stores: at 0, with 128 in x1, other in x2, and eight at 128.
func TestStepGivesRdAndStores(t *testing.T) {
	for _, c := range []struct {
		line string
		rd   int
		want uint64
		mem  uint64 // what is at 128 behind it
	}{
		{"addi x3 x1 -3", 3, 125, eight},
		{"addi x1 x1 1", 1, 129, eight},
		{"add x3 x1 x2", 3, other + 128, eight},
		{"sub x3 x1 x2", 3, 0xeeedecebeae9e968, eight},
		{"sub x2 x2 x2", 2, 0, eight},
		{"sltu x31 x1 x2", 31, 1, eight},
		{"srli x3 x2 56", 3, 0x11, eight},
		{"addiw x3 x2 0", 3, 0x15161718, eight},
		{"mul x3 x1 x1", 3, 16384, eight},
		{"lui x3 -4096", 3, all - 4095, eight},
		{"auipc x3 8192", 3, 8192, eight},
		{"lb x3 x1 0", 3, 0xffffffffffffff88, eight},
		{"lb x3 x1 7", 3, 0xffffffffffffff81, eight},
		{"lb x3 x1 -1", 3, 0, eight},
		{"lbu x3 x1 0", 3, 0x88, eight},
		{"lh x3 x1 0", 3, 0xffffffffffff8788, eight},
		{"lh x3 x1 6", 3, 0xffffffffffff8182, eight},
		{"lhu x3 x1 2", 3, 0x8586, eight},
		{"lw x3 x1 0", 3, 0xffffffff85868788, eight},
		{"lw x3 x1 4", 3, 0xffffffff81828384, eight},
		{"lwu x3 x1 0", 3, 0x85868788, eight},
		{"ld x3 x1 0", 3, eight, eight},
		{"ld x1 x1 0", 1, eight, eight},
		{"ld x3 x0 128", 3, eight, eight},
		{"sb x1 x2 0", 0, 0, 0x8182838485868718},
		{"sb x1 x2 7", 0, 0, 0x1882838485868788},
		{"sh x1 x2 2", 0, 0, 0x8182838417188788},
		{"sw x1 x2 4", 0, 0, 0x1516171885868788},
		{"sw x1 x0 0", 0, 0, 0x8182838400000000},
		{"sd x1 x2 0", 0, 0, other},
		{"sd x1 x0 0", 0, 0, 0},
		{"sd x1 x1 0", 0, 0, 128},
		{"sd x0 x2 128", 0, 0, other},
		{"fence 255", 0, 0, eight},
		{"fence 0", 0, 0, eight},
	} {
		m := laid(t, c.line)
		put(t, m, 128, 8, eight)
		h := with(128, other)
		want := h
		want.PC = 4
		want.X[c.rd] = c.want
		want.X[0] = 0
		if next := step(t, h, m); next != want {
			t.Errorf("%s: %+v, not %+v", c.line, next, want)
		}
		if v, _ := m.Load(128, 8); v != c.mem {
			t.Errorf("%s: at 128 %x, not %x", c.line, v, c.mem)
		}
	}
}

// P6.1: an amo loads, and stores of what was there and Rs2: here the least number (of 4 bytes, of 8) and 5, and 3.
func TestStepOfAmos(t *testing.T) {
	type numbers struct {
		name string
		w, d uint64
	}
	for _, c := range []numbers{
		{"amoswap", 3, 3},
		{"amoadd", 0x80000008, 1<<63 + 8},
		{"amoxor", 0x80000006, 1<<63 + 6},
		{"amoand", 1, 1},
		{"amoor", 0x80000007, 1<<63 + 7},
		{"amomin", 0x80000005, 1<<63 + 5},
		{"amomax", 3, 3},
		{"amominu", 3, 3},
		{"amomaxu", 0x80000005, 1<<63 + 5},
	} {
		for _, order := range []string{"", ".aq", ".rl", ".aqrl"} {
			m := laid(t, c.name+".w"+order+" x3 x1 x2", c.name+".d"+order+" x2 x4 x2")
			put(t, m, 128, 8, 0x7777777780000005)
			put(t, m, 136, 8, 1<<63+5)
			h := with(128, 0xaaaaaaaa00000003, 0, 136)
			h.Held, h.Address, h.Size = true, 128, 4
			next := step(t, h, m)
			if v, _ := m.Load(128, 8); v != 0x77777777<<32|c.w || next.X[3] != 0xffffffff80000005 {
				t.Errorf("%s.w%s: at 128 %x, x3 has %x", c.name, order, v, next.X[3])
			}
			next.X[2] = 3
			next = step(t, next, m)
			if v, _ := m.Load(136, 8); v != c.d || next.X[2] != 1<<63+5 {
				t.Errorf("%s.d%s: at 136 %x, x2 has %x", c.name, order, v, next.X[2])
			}
			if next.PC != 8 || !next.Held || next.Address != 128 || next.Size != 4 {
				t.Errorf("%s%s: %+v", c.name, order, next)
			}
		}
	}
}

// P6.1: an amo whose Rd is 0 stores all the same.
func TestStepOfAmoWithoutRd(t *testing.T) {
	m := laid(t, "amoadd.d x0 x1 x2")
	put(t, m, 128, 8, 5)
	h := step(t, with(128, 2), m)
	if v, _ := m.Load(128, 8); v != 7 || h.X != [32]uint64{0, 128, 2} {
		t.Errorf("%d, %v", v, h.X)
	}
}

// P6.1: where a step goes: of each branch once taken and once not.
func TestStepGoes(t *testing.T) {
	for _, c := range []struct {
		line     string
		pc, a, b uint64
		to       uint64
		rd       int
		want     uint64
	}{
		{"jal x4 8", 100, 1, 2, 108, 4, 104},
		{"jal x4 -8", 8, 1, 2, 0, 4, 12},
		{"jal x0 0", 12, 1, 2, 12, 0, 0},
		{"jal x4 0", 12, 1, 2, 12, 4, 16},
		{"jal x4 -16", 8, 1, 2, all - 7, 4, 12},
		{"jal x4 1048574", 0, 1, 2, 1048574, 4, 4},
		{"jalr x4 x1 8", 8, 128, 2, 136, 4, 12},
		{"jalr x4 x1 5", 8, 128, 2, 132, 4, 12},
		{"jalr x4 x1 -129", 8, 128, 2, all - 1, 4, 12},
		{"jalr x4 x1 1", 8, all, 2, 0, 4, 12},
		{"jalr x1 x1 0", 8, 64, 2, 64, 1, 12},
		{"jalr x0 x1 0", 8, 64, 2, 64, 0, 0},
		{"jalr x4 x0 64", 8, 1, 2, 64, 4, 12},
		{"beq x1 x2 -8", 16, 5, 5, 8, 0, 0},
		{"beq x1 x2 -8", 16, 5, 6, 20, 0, 0},
		{"beq x1 x0 0", 16, 0, 6, 16, 0, 0},
		{"beq x1 x0 8", 16, junk, 6, 20, 0, 0},
		{"bne x1 x2 8", 16, 5, 6, 24, 0, 0},
		{"bne x1 x2 8", 16, 6, 6, 20, 0, 0},
		{"bne x0 x2 8", 16, 6, junk, 24, 0, 0},
		{"blt x1 x2 8", 16, all, 1, 24, 0, 0},
		{"blt x1 x2 8", 16, 1, all, 20, 0, 0},
		{"blt x1 x2 8", 16, 1, 1, 20, 0, 0},
		{"bge x1 x2 8", 16, 1, all, 24, 0, 0},
		{"bge x1 x2 8", 16, 1, 1, 24, 0, 0},
		{"bge x1 x2 8", 16, all, 1, 20, 0, 0},
		{"bltu x1 x2 -16", 16, 1, all, 0, 0, 0},
		{"bltu x1 x2 -16", 16, all, 1, 20, 0, 0},
		{"bgeu x1 x2 -20", 16, all, 1, all - 3, 0, 0},
		{"bgeu x1 x2 -20", 16, 1, all, 20, 0, 0},
		{"bgeu x1 x2 6", 16, 1, 1, 22, 0, 0},
		{"auipc x4 4096", 16, 1, 2, 20, 4, 4112},
		{"add x4 x1 x2", room - 4, 1, 2, room, 4, 3},
	} {
		m := laidAt(t, c.pc, c.line)
		was := whole(m)
		h := with(c.a, c.b)
		h.PC = c.pc
		want := h
		want.PC = c.to
		want.X[c.rd] = c.want
		want.X[0] = 0
		if next := step(t, h, m); next != want {
			t.Errorf("%s at %d with %x and %x: %+v, not %+v", c.line, c.pc, c.a, c.b, next, want)
		}
		if whole(m) != was {
			t.Errorf("%s at %d: the memory has changed", c.line, c.pc)
		}
	}
}

// P6.1: register 0 has 0, whatever X says, as a source and as a target.
func TestStepOfRegister0(t *testing.T) {
	for _, line := range []string{
		"addi x0 x0 5", "add x0 x1 x1", "lui x0 4096", "auipc x0 4096", "ld x0 x1 0", "lr.d x0 x1", "sc.d x0 x1 x2", "amoadd.d x0 x1 x2", "sd x1 x2 0", "fence 3",
	} {
		if next := step(t, with(128, 2), laid(t, line)); next.X != [32]uint64{0, 128, 2} {
			t.Errorf("%s: %v", line, next.X)
		}
	}
	for _, line := range []string{"add x3 x0 x0", "addi x3 x0 0", "or x3 x0 x0", "sltu x3 x0 x0", "lw x3 x0 128", "mul x3 x0 x1"} {
		if next := step(t, with(128, 2, 9), laid(t, line)); next.X != [32]uint64{0, 128, 2} {
			t.Errorf("%s: %v", line, next.X)
		}
	}
}

// P6.1: without an instruction nothing is done: the errors of what is at PC, one ahead of the other.
func TestStepWithoutInstruction(t *testing.T) {
	full, six := laid(t, "addi x1 x0 5"), memory.New(6)
	for _, c := range []struct {
		m  *memory.Memory
		pc uint64
		e  api.Errno
	}{
		{nil, 0, api.ErrNil},
		{nil, 1, api.ErrNil},
		{nil, all, api.ErrNil},
		{&memory.Memory{}, 0, api.ErrNil},
		{&memory.Memory{}, 3, api.ErrNil},
		{full, 1, api.ErrAlign},
		{full, 2, api.ErrAlign},
		{full, 3, api.ErrAlign},
		{full, room - 2, api.ErrAlign},
		{full, room + 1, api.ErrAlign},
		{full, all, api.ErrAlign},
		{full, room, api.ErrOut},
		{full, 1 << 32, api.ErrOut},
		{full, 1 << 63, api.ErrOut},
		{full, all - 3, api.ErrOut},
		{six, 4, api.ErrOut}, // two of its bytes are there
		{memory.New(0), 0, api.ErrOut},
		{memory.New(3), 0, api.ErrOut},
		{full, 4, api.ErrIllegal}, // 0 is no instruction's word
		{full, room - 4, api.ErrIllegal},
		{six, 0, api.ErrIllegal},
	} {
		h := with(1, 2, 3)
		h.PC, h.Held, h.Address, h.Size = c.pc, true, 128, 8
		if e := refuses(t, h, c.m); e != c.e {
			t.Errorf("PC %x of %d bytes: %d, not %d", c.pc, c.m.Len(), int(e), int(c.e))
		}
	}
}

// P6.1: words of no instruction, and the two that halt.
func TestStepOfWords(t *testing.T) {
	for _, c := range []struct {
		w uint64
		e api.Errno
	}{
		{0x00000073, api.ErrHalt},
		{0x00100073, api.ErrHalt},
		{0x000000f3, api.ErrIllegal}, // ecall with a register
		{0x00200073, api.ErrIllegal},
		{0x00000000, api.ErrIllegal},
		{0xffffffff, api.ErrIllegal},
		{0x00000001, api.ErrIllegal},
		{0x0000100f, api.ErrIllegal},
		{0x30001073, api.ErrIllegal},
		{0x0000b003 | 4<<12, api.ErrIllegal}, // no load has f3 7
		{0x00000013, api.OK},
		{0x0000000f, api.OK},
	} {
		m := memory.New(room)
		put(t, m, 8, 4, c.w)
		h := with(1, 2, 3)
		h.PC, h.Held = 8, true
		if c.e == api.OK {
			step(t, h, m)
		} else if e := refuses(t, h, m); e != c.e {
			t.Errorf("%08x: %d, not %d", c.w, int(e), int(c.e))
		}
	}
}

// P6.1: each load, store and atomic operation at places that it can and can't
// be done at, with nothing changed behind those. What is misaligned and out has
// memory's first error.
func TestStepWithoutPlace(t *testing.T) {
	places := []uint64{1 << 32, 1<<63 - 8, 1 << 63, 1<<63 + 1}
	for k := range uint64(16) {
		places = append(places, 128+k, short-8+k, all-k)
	}
	for op := api.OpLui; op <= api.OpAmomaxud; op++ {
		size := uint64(inst.Size(op))
		if size == 0 {
			continue
		}
		for _, at := range places {
			want := api.OK
			if at >= short || short-at < size {
				want = api.ErrOut
			}
			if at%size != 0 {
				want = api.ErrAlign
			}
			stepAt(t, sample(op, 3, 1, 2, 0), at, want)
			stepAt(t, sample(op, 0, 1, 2, 0), at, want)
		}
	}
}

// short is the length of a memory at whose end numbers of 2, 4 and 8 bytes are cut off.
const short = room - 5

// stepAt does an instruction with a place in x1, which is what an sc holds.
func stepAt(t *testing.T, i api.Inst, at uint64, want api.Errno) {
	t.Helper()
	m := memory.New(short)
	lay(t, m, 0, i)
	h := with(at, other, 3)
	h.Held, h.Address, h.Size = true, at, inst.Size(i.Op)
	if want == api.OK {
		step(t, h, m)
	} else if e := refuses(t, h, m); e != want {
		t.Errorf("%+v at %x: %d, not %d", i, at, int(e), int(want))
	}
}

// P6.1: an address is a sum modulo 2^64.
func TestStepOfAddressesThatComeRound(t *testing.T) {
	m := laid(t, "ld x3 x1 136", "sd x1 x2 144")
	put(t, m, 128, 8, eight)
	h := step(t, step(t, with(all-7, other), m), m)
	if v, _ := m.Load(136, 8); v != other || h.X[3] != eight {
		t.Errorf("%x, %+v", v, h)
	}
}

// P6.1, P6.3: all operations, with registers that are one or are 0, in a row of
// harts, held against a step done in a plain list of bytes.
func TestStepAsTheDocumentTellsIt(t *testing.T) {
	row := uint64(7)
	next := func(n uint64) uint64 {
		row = row*6364136223846793005 + 1442695040888963407
		return row >> 33 % n
	}
	regs := [][3]int{{3, 1, 2}, {1, 1, 2}, {2, 1, 2}, {0, 1, 2}, {3, 1, 0}, {3, 1, 1}, {1, 1, 1}, {31, 1, 30}, {3, 0, 2}, {0, 0, 0}}
	for op := api.OpLui; op <= api.OpAmomaxud; op++ {
		if op == api.OpEcall || op == api.OpEbreak {
			continue
		}
		for _, r := range regs {
			for k := range 40 {
				i := sample(op, r[0], r[1], r[2], 8)
				h := hart.Hart{PC: 4 * next(8)}
				for k := range h.X {
					h.X[k] = next(1<<31)<<33 ^ next(1<<31)
				}
				h.X[1] = 64 + 8*next(8)
				if k%2 == 0 {
					h.X[r[2]] = h.X[r[1]]
				}
				h.Held, h.Address, h.Size = next(4) > 0, h.X[1], 4+4*int(next(2))
				if r[1] == 0 {
					h.Address = 0
				}
				agrees(t, h, i)
			}
		}
	}
}

// agrees does an instruction at the hart's PC, and plainly.
func agrees(t *testing.T, h hart.Hart, i api.Inst) {
	t.Helper()
	m := memory.New(room)
	for k := range uint64(room / 8) {
		put(t, m, 8*k, 8, eight+k*other)
	}
	lay(t, m, h.PC, i)
	bytes := []byte(whole(m))
	want := plainly(h, i, bytes)
	got := step(t, h, m)
	if got != want || whole(m) != string(bytes) {
		t.Errorf("%+v of %+v: %+v, not %+v", i, h, got, want)
	}
	if got.X[0] != 0 || got.PC%4 != 0 && i.Op != api.OpJalr {
		t.Errorf("%+v of %+v: PC %x, register 0 %x", i, h, got.PC, got.X[0])
	}
}
