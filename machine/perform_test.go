package machine_test

import (
	"slices"
	"strings"
	"testing"

	"postbag/api"
)

// P9.2: a load has the memory's bytes, with their writers, and each kind of load what it makes of them.
func TestLoads(t *testing.T) {
	b := bytesOf(t, code("ld x5 x0 1024", "lb x6 x0 1027", "lbu x7 x0 1027", "lw x8 x0 1024", "lwu x9 x0 1024", "lh x11 x0 1030", "ld x0 x0 1024"))
	b.Store(data, 8, 0x8877665584332211)
	m := started(t, b, 1)
	issues(t, m, 0, 7)
	for range 7 {
		do(t, m, perform(0, 0))
	}
	for r, want := range map[int]uint64{0: 0, 5: 0x8877665584332211, 6: 0xffffffffffffff84, 7: 0x84, 8: 0xffffffff84332211, 9: 0x84332211, 11: 0xffffffffffff8877} {
		has(t, m, 0, r, want)
	}
	for k, want := range []uint64{0x8877665584332211, 0x84, 0x84, 0x84332211, 0x84332211, 0x8877, 0x8877665584332211} {
		op := operation(t, m, 0, k)
		if op.Value != want || !slices.Equal(op.From, slices.Repeat([]int{-1}, op.Size)) {
			t.Errorf("%+v: not %x", op, want)
		}
	}
}

// P9.2: bytes of open stores ahead, the last one of each, and of the memory, by those who wrote them.
func TestForwards(t *testing.T) {
	m := laid(t,
		code("lui x5 286330880", "addi x5 x5 273", // 0x11111111
			"lui x6 572661760", "addi x6 x6 546", // 0x22222222
			"lui x7 858992640", "addi x7 x7 819", // 0x33333333
			"sw x0 x5 1024",  // 0: performs ahead of the load
			"sw x0 x6 1028",  // 1
			"sh x0 x7 1030",  // 2
			"sb x0 x6 1025",  // 3
			"sb x0 x7 1025",  // 4
			"sb x0 x7 1032",  // 5: none of its bytes
			"ld x8 x0 1024",  // 6
			"sd x0 x0 1024"), // 7: behind it
		code("addi x5 x0 119", "sb x0 x5 1027"))
	issues(t, m, 0, 14)
	issues(t, m, 1, 2)
	do(t, m, perform(0, 0), perform(1, 0), perform(0, 5))
	has(t, m, 0, 8, 0x3333222277113311)
	op := operation(t, m, 0, 6)
	if op.Value != 0x3333222277113311 || !slices.Equal(op.From, []int{0, 4, 0, 8, 1, 1, 2, 2}) {
		t.Errorf("%+v", op)
	}
	if v := word(t, m, data); v != 0x77111111 {
		t.Errorf("the memory has %x", v)
	}
	for m.Open(0) > 1 {
		do(t, m, perform(0, 0))
	}
	if v := word(t, m, data); v != 0x3333222277113311 {
		t.Errorf("the memory has %x", v)
	}
}

// P9.2: of an open store that a narrower load meets in its midst the right bytes are loaded.
func TestForwardsAPart(t *testing.T) {
	m := laid(t, code("lui x5 305418240", "addi x5 x5 1656", "sd x0 x5 1024", "lbu x6 x0 1025", "lh x7 x0 1026", "lb x8 x0 1028", "lbu x9 x0 1032"))
	issues(t, m, 0, 7)
	do(t, m, perform(0, 4), perform(0, 3), perform(0, 2), perform(0, 1))
	for r, want := range map[int]uint64{5: 0x12345678, 6: 0x56, 7: 0x1234, 8: 0, 9: 0} {
		has(t, m, 0, r, want)
	}
}

// P9.2: another hart's open stores are not seen, nor those behind.
func TestForwardsItsOwnAlone(t *testing.T) {
	m := laid(t, code("addi x5 x0 1", "sd x0 x5 1024"), code("ld x6 x0 1024", "addi x5 x0 2", "sd x0 x5 1024"))
	issues(t, m, 0, 2)
	issues(t, m, 1, 3)
	do(t, m, perform(1, 0))
	has(t, m, 1, 6, 0)
	if op := operation(t, m, 1, 0); op.From[0] != -1 {
		t.Errorf("%+v", op)
	}
}

// P9.2: what is stored is in the memory, lowest byte first, and no other byte changes.
func TestStores(t *testing.T) {
	m := laid(t, code("addi x5 x0 -2", "sb x0 x5 1025", "sh x0 x5 1028", "sw x0 x5 1036", "sd x0 x5 1040"))
	issues(t, m, 0, 5)
	do(t, m, perform(0, 3), perform(0, 0), perform(0, 0), perform(0, 0))
	for at, want := range map[uint64]uint64{1016: 0, 1024: 0x0000fffe0000fe00, 1032: 0xfffffffe00000000, 1040: 0xfffffffffffffffe, 1048: 0} {
		if v := word(t, m, at); v != want {
			t.Errorf("at %d: %x, not %x", at, v, want)
		}
	}
	if _, gmo := m.Trace(); !slices.Equal(gmo, []int{3, 0, 1, 2}) {
		t.Errorf("order %d", gmo)
	}
}

// P9.2: an amo loads and stores at a time, what alu makes of both.
func TestAmos(t *testing.T) {
	const old = 0x80000005fffffff0
	for _, c := range []struct {
		name         string
		has, is, raw uint64
	}{
		{"amoadd.d", old, old + 7, old},
		{"amoswap.d", old, 7, old},
		{"amomax.d", old, 7, old},
		{"amomaxu.d", old, old, old},
		{"amoand.w", 0xfffffffffffffff0, 0x8000000500000000, 0xfffffff0},
		{"amoadd.w", 0xfffffffffffffff0, 0x80000005fffffff7, 0xfffffff0},
	} {
		b := bytesOf(t, code("addi x5 x0 1024", "addi x6 x0 7", c.name+" x7 x5 x6"), code("ld x5 x0 1024"))
		b.Store(data, 8, old)
		m := started(t, b, 2)
		issues(t, m, 0, 3)
		issues(t, m, 1, 1)
		if op := operation(t, m, 0, 0); op.Stored != 0 || op.Value != 0 || len(op.From) != 0 {
			t.Errorf("%s, as it is open: %+v", c.name, op)
		}
		do(t, m, perform(0, 0), perform(1, 0))
		has(t, m, 0, 7, c.has)
		has(t, m, 1, 5, c.is)
		op := operation(t, m, 0, 0)
		size := 8
		if strings.HasSuffix(c.name, ".w") {
			size = 4
		}
		stored := c.is & (1<<(8*size-1)<<1 - 1)
		if op.Value != c.raw || op.Stored != stored || !slices.Equal(op.From, slices.Repeat([]int{-1}, size)) {
			t.Errorf("%s: %+v", c.name, op)
		}
		want := append(slices.Repeat([]int{0}, size), slices.Repeat([]int{-1}, 8-size)...)
		if op := operation(t, m, 1, 0); !slices.Equal(op.From, want) {
			t.Errorf("behind %s: %+v", c.name, op)
		}
	}
}

// P9.2: what an amo stores it reckons with what its register had when it was issued.
func TestAmoOfItsOwnRegister(t *testing.T) {
	m := laid(t, code("addi x5 x0 1024", "addi x6 x0 7", "amoadd.d x6 x5 x6", "amoadd.d x5 x5 x5"))
	issues(t, m, 0, 3)
	do(t, m, perform(0, 0))
	has(t, m, 0, 6, 0)
	issues(t, m, 0, 1)
	do(t, m, perform(0, 0))
	has(t, m, 0, 5, 7)
	if v := word(t, m, data); v != 1031 {
		t.Errorf("%d is stored", v)
	}
}

// P9.2: an amo and an sc come behind stores to their bytes, and have what those stored.
func TestAtomicsBehindStores(t *testing.T) {
	m := laid(t, code("addi x5 x0 1024", "addi x6 x0 7", "lr.d x7 x5", "sd x0 x6 1024", "amoadd.d x8 x5 x6", "sc.d x9 x5 x5"))
	issues(t, m, 0, 6)
	for k := 3; k >= 1; k-- {
		refuses(t, m, perform(0, k), api.ErrWait)
	}
	for range 4 {
		do(t, m, perform(0, 0))
	}
	has(t, m, 0, 8, 7)
	has(t, m, 0, 9, 0)
	if op := operation(t, m, 0, 2); op.From[0] != 1 || op.Value != 7 || op.Stored != 14 {
		t.Errorf("%+v", op)
	}
	if v := word(t, m, data); v != 1024 {
		t.Errorf("%d is stored", v)
	}
}

// P9.2: fences with nothing open ahead of them are open no more.
func TestFencesPass(t *testing.T) {
	m := laid(t, code("fence 51", "fence 255", "sd x0 x0 1024", "fence 51", "fence 0", "ld x5 x0 1032", "fence 51", "ebreak"))
	issues(t, m, 0, 2)
	if m.Open(0) != 0 || len(m.Choices()) != 1 {
		t.Errorf("%d are open", m.Open(0))
	}
	issues(t, m, 0, 5)
	if m.Open(0) != 5 {
		t.Errorf("%d are open", m.Open(0))
	}
	for _, n := range []int{1, 2, 4} {
		refuses(t, m, perform(0, n), api.ErrChoice)
		refuses(t, m, fail(0, n), api.ErrChoice)
	}
	do(t, m, perform(0, 0))
	if m.Open(0) != 2 {
		t.Errorf("%d are open", m.Open(0))
	}
	do(t, m, perform(0, 0))
	l, gmo := m.Trace()
	if m.Open(0) != 0 || len(l[0]) != 7 || !slices.Equal(gmo, []int{2, 5}) {
		t.Errorf("%d are open: %+v, %d", m.Open(0), l, gmo)
	}
	for _, k := range []int{0, 1, 3, 4, 6} {
		if !l[0][k].Fence || l[0][k].ID != k {
			t.Errorf("%+v", l[0][k])
		}
	}
}

// P9.2: a fence behind an open one stays, though a later operation performs.
func TestFencesStay(t *testing.T) {
	m := laid(t, code("sd x0 x0 1024", "fence 17", "ld x5 x0 1032", "fence 0", "ld x6 x0 1040"))
	issues(t, m, 0, 5)
	do(t, m, perform(0, 2))
	if m.Open(0) != 4 {
		t.Errorf("%d are open", m.Open(0))
	}
	do(t, m, perform(0, 3), perform(0, 0))
	if m.Open(0) != 0 {
		t.Errorf("%d are open", m.Open(0))
	}
}
