package hart_test

import (
	"strings"
	"testing"

	"postbag/api"
	"postbag/hart"
)

// P6.1: whether an sc succeeds, by what is done ahead of it: x1 is 128, x2 what is stored, x4 136.
func TestStoreConditional(t *testing.T) {
	for _, c := range []struct {
		ahead, sc string
		fails     uint64
	}{
		{"lr.d x9 x1", "sc.d x3 x1 x2", 0},
		{"lr.w x9 x1", "sc.w x3 x1 x2", 0},
		{"lr.d.aqrl x9 x1", "sc.d x3 x1 x2", 0},
		{"lr.d x9 x1", "sc.d.aqrl x3 x1 x2", 0},
		{"lr.d x0 x1", "sc.d x3 x1 x2", 0},
		{"", "sc.d x3 x1 x2", 1},
		{"", "sc.w x3 x1 x2", 1},
		{"", "sc.d x3 x0 x2", 1},
		// another size, another address
		{"lr.d x9 x1", "sc.w x3 x1 x2", 1},
		{"lr.w x9 x1", "sc.d x3 x1 x2", 1},
		{"lr.d x9 x4", "sc.d x3 x1 x2", 1},
		{"lr.d x9 x1", "sc.d x3 x4 x2", 1},
		{"lr.d x9 x1;lr.d x9 x4", "sc.d x3 x1 x2", 1},
		{"lr.d x9 x1;lr.d x9 x4", "sc.d x3 x4 x2", 0},
		{"lr.d x9 x4;lr.d x9 x1", "sc.d x3 x1 x2", 0},
		{"lr.d x9 x1;lr.w x9 x1", "sc.d x3 x1 x2", 1},
		{"lr.d x9 x1;lr.w x9 x1", "sc.w x3 x1 x2", 0},
		// behind any other sc there is no hold
		{"lr.d x9 x1;sc.d x8 x1 x2", "sc.d x3 x1 x2", 1},
		{"lr.d x9 x1;sc.w x8 x1 x2", "sc.d x3 x1 x2", 1},
		{"lr.d x9 x1;sc.d x8 x4 x2", "sc.d x3 x1 x2", 1},
		{"lr.d x9 x1;sc.d x8 x0 x2", "sc.d x3 x1 x2", 1},
		{"lr.d x9 x1;sc.d x8 x4 x2;lr.d x9 x1", "sc.d x3 x1 x2", 0},
		// nothing else changes it
		{"lr.d x9 x1;sd x1 x0 0", "sc.d x3 x1 x2", 0},
		{"lr.d x9 x1;sb x1 x0 3", "sc.d x3 x1 x2", 0},
		{"lr.d x9 x1;amoswap.d x9 x1 x2", "sc.d x3 x1 x2", 0},
		{"lr.d x9 x1;ld x9 x1 0", "sc.d x3 x1 x2", 0},
		{"lr.d x9 x1;fence 255", "sc.d x3 x1 x2", 0},
		{"lr.d x9 x1;jal x9 4;beq x0 x0 4;jalr x9 x0 16", "sc.d x3 x1 x2", 0},
		{"lr.d x9 x1;addi x1 x1 0;addi x9 x0 0", "sc.d x3 x1 x2", 0},
		{"lr.d x9 x1;addi x1 x1 8", "sc.d x3 x1 x2", 1},
	} {
		lines := strings.FieldsFunc(c.ahead, func(r rune) bool { return r == ';' })
		m := laid(t, append(lines, c.sc)...)
		h, n, e := hart.Run(with(128, other, 7, 136), m, len(lines))
		if n != len(lines) || e != api.OK {
			t.Fatalf("%q: %d steps, error %d", c.ahead, n, int(e))
		}
		want := h
		want.PC += 4
		want.X[0], want.X[3] = 0, c.fails
		want.Held, want.Address, want.Size = false, 0, 0
		was := whole(m)
		if next := step(t, h, m); next != want {
			t.Errorf("%q, %s: %+v, not %+v", c.ahead, c.sc, next, want)
		}
		if c.fails == 1 && whole(m) != was {
			t.Errorf("%q, %s: it fails, and the memory has changed", c.ahead, c.sc)
		}
	}
}

// P6.1: an lr loads, and its place is held; what was held ahead is not.
func TestLoadReserved(t *testing.T) {
	for _, c := range []struct {
		line string
		at   uint64
		size int
		want uint64
	}{
		{"lr.w x3 x1", 128, 4, 0xffffffff85868788},
		{"lr.w x3 x2", 132, 4, 0xffffffff81828384},
		{"lr.d x3 x1", 128, 8, eight},
		{"lr.d.aq x3 x1", 128, 8, eight},
		{"lr.d.rl x3 x1", 128, 8, eight},
		{"lr.d x1 x1", 128, 8, eight},
	} {
		for _, held := range []bool{false, true} {
			m := laid(t, c.line)
			put(t, m, 128, 8, eight)
			was := whole(m)
			h := with(128, 132, 7)
			h.Held, h.Address, h.Size = held, 64, 8
			want := h
			want.PC, want.Held, want.Address, want.Size = 4, true, c.at, c.size
			want.X[0] = 0
			want.X[3] = c.want
			if c.line == "lr.d x1 x1" {
				want.X[1], want.X[3] = c.want, 7
			}
			if next := step(t, h, m); next != want || whole(m) != was {
				t.Errorf("%s: %+v, not %+v", c.line, next, want)
			}
		}
	}
}

// P6.1: what an sc that succeeds stores, and where.
func TestStoreConditionalStores(t *testing.T) {
	for _, c := range []struct {
		line     string
		size, rd int
		want     uint64
	}{
		{"sc.w x3 x1 x2", 4, 3, 0x8182838415161718},
		{"sc.d x3 x1 x2", 8, 3, other},
		{"sc.d x2 x1 x2", 8, 2, other}, // Rd is set behind the store
		{"sc.d x1 x1 x2", 8, 1, other},
		{"sc.d x0 x1 x2", 8, 0, other},
		{"sc.d x3 x1 x1", 8, 3, 128},
		{"sc.d x3 x1 x0", 8, 3, 0},
		{"sc.w x3 x1 x0", 4, 3, 0x8182838400000000},
	} {
		m := laid(t, c.line)
		put(t, m, 128, 8, eight)
		h := with(128, other, 7)
		h.Held, h.Address, h.Size = true, 128, c.size
		want := with(128, other, 7)
		want.PC = 4
		want.X[c.rd] = 0
		want.X[0] = 0
		if next := step(t, h, m); next != want {
			t.Errorf("%s: %+v, not %+v", c.line, next, want)
		}
		if v, _ := m.Load(128, 8); v != c.want {
			t.Errorf("%s: %x, not %x", c.line, v, c.want)
		}
	}
}

// P6.1: an sc that fails asks for nothing, wherever its place is; one that holds such a place has memory's error.
func TestStoreConditionalWithoutPlace(t *testing.T) {
	for _, at := range []uint64{1, 4, 129, room, room + 1, 1 << 63, all - 7, all} {
		for _, held := range []hart.Hart{{}, {Held: true}, {Held: true, Address: at, Size: 4}, {Held: true, Address: at + 8, Size: 8}, {Address: at, Size: 8}} {
			m := laid(t, "sc.d x3 x1 x2")
			was := whole(m)
			h := with(at, other, 7)
			h.Held, h.Address, h.Size = held.Held, held.Address, held.Size
			want := with(at, other, 1)
			want.PC, want.X[0] = 4, 0
			if next := step(t, h, m); next != want || whole(m) != was {
				t.Errorf("at %x, held %x: %+v, not %+v", at, held.Address, next, want)
			}
		}
		h := with(at, other, 7)
		h.Held, h.Address, h.Size = true, at, 8
		want := api.ErrOut
		if at%8 != 0 {
			want = api.ErrAlign
		}
		if e := refuses(t, h, laid(t, "sc.d x3 x1 x2")); e != want {
			t.Errorf("at %x, held: %d, not %d", at, int(e), int(want))
		}
	}
}

// P6.1: an lr that has an error leaves the hold as it was.
func TestLoadReservedWithoutPlace(t *testing.T) {
	for at, want := range map[uint64]api.Errno{129: api.ErrAlign, 132: api.ErrAlign, room: api.ErrOut, all: api.ErrAlign, all - 7: api.ErrOut} {
		h := with(at)
		h.Held, h.Address, h.Size = true, 128, 8
		if e := refuses(t, h, laid(t, "lr.d x3 x1")); e != want {
			t.Errorf("at %x: %d, not %d", at, int(e), int(want))
		}
	}
}
