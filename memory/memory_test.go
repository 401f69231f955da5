package memory_test

import (
	"bytes"
	"math"
	"slices"
	"testing"

	"postbag/api"
	"postbag/memory"
)

const last = math.MaxUint64 // the greatest place

// counted tells a memory of n bytes: 1, 2, 3 and so on, modulo 256.
func counted(t *testing.T, n int) *memory.Memory {
	t.Helper()
	b := make([]byte, n)
	for k := range b {
		b[k] = byte(k + 1)
	}
	m := memory.New(n)
	if e := m.Put(0, b); e != api.OK {
		t.Fatalf("Put: %d", int(e))
	}
	return m
}

// whole tells all bytes of a memory, copied: that Bytes copies them is for a test to tell.
func whole(t *testing.T, m *memory.Memory) []byte {
	t.Helper()
	b, e := m.Bytes(0, m.Len())
	if e != api.OK || len(b) != m.Len() {
		t.Fatalf("%d bytes of %d, error %d", len(b), m.Len(), int(e))
	}
	return bytes.Clone(b)
}

// P5.1: a memory of n bytes, all of them 0.
func TestNewTellsBytesOf0(t *testing.T) {
	for _, n := range []int{0, 1, 2, 7, 8, 9, 4096, api.MaxMemory - 1, api.MaxMemory} {
		m := memory.New(n)
		if m == nil || m.Len() != n {
			t.Fatalf("%d: no memory, or of %d bytes", n, m.Len())
		}
		if b := whole(t, m); !bytes.Equal(b, make([]byte, n)) {
			t.Errorf("%d: not all bytes are 0", n)
		}
		if v, e := m.Load(uint64(n), 1); v != 0 || e != api.ErrOut {
			t.Errorf("%d: behind the last byte %d and %d", n, v, int(e))
		}
		if v, e := m.Load(uint64(n)-1, 1); n > 0 && (v != 0 || e != api.OK) {
			t.Errorf("%d: the last byte %d and %d", n, v, int(e))
		}
	}
}

// P5.1: no memory is of fewer than 0 bytes, or of more than MaxMemory.
func TestNewRefusesOtherSizes(t *testing.T) {
	for _, n := range []int{-1, -8, math.MinInt, api.MaxMemory + 1, api.MaxMemory + 8, 1 << 32, 1<<32 + 1, math.MaxInt} {
		if m := memory.New(n); m != nil {
			t.Errorf("%d: a memory of %d bytes", n, m.Len())
		}
	}
}

// place is where a number stands, its bytes in a counted memory, and the error that it has.
type place struct {
	at   uint64
	size int
	v    uint64
	e    api.Errno
}

// places are some of a counted memory of 22 bytes.
var places = []place{
	{0, 1, 0x01, api.OK},
	{0, 2, 0x0201, api.OK},
	{0, 4, 0x04030201, api.OK},
	{0, 8, 0x0807060504030201, api.OK},
	{5, 1, 0x06, api.OK},
	{6, 2, 0x0807, api.OK},
	{12, 4, 0x100f0e0d, api.OK},
	{8, 8, 0x100f0e0d0c0b0a09, api.OK},
	// the last ones, and beyond
	{21, 1, 0x16, api.OK},
	{22, 1, 0, api.ErrOut},
	{23, 1, 0, api.ErrOut},
	{20, 2, 0x1615, api.OK},
	{22, 2, 0, api.ErrOut},
	{16, 4, 0x14131211, api.OK},
	{20, 4, 0, api.ErrOut}, // two of its bytes are there
	{24, 4, 0, api.ErrOut},
	{16, 8, 0, api.ErrOut}, // six
	{24, 8, 0, api.ErrOut},
	// near 2^63 and 2^64
	{1 << 63, 8, 0, api.ErrOut},
	{1<<63 - 8, 8, 0, api.ErrOut},
	{last, 1, 0, api.ErrOut},
	{last - 1, 2, 0, api.ErrOut},
	{last - 3, 4, 0, api.ErrOut},
	{last - 7, 8, 0, api.ErrOut},
	{1 << 32, 1, 0, api.ErrOut},
	{1<<32 + 1, 1, 0, api.ErrOut},
	// no multiples: told ahead of what is out
	{1, 2, 0, api.ErrAlign},
	{1, 4, 0, api.ErrAlign},
	{2, 4, 0, api.ErrAlign},
	{3, 4, 0, api.ErrAlign},
	{1, 8, 0, api.ErrAlign},
	{2, 8, 0, api.ErrAlign},
	{4, 8, 0, api.ErrAlign},
	{7, 8, 0, api.ErrAlign},
	{12, 8, 0, api.ErrAlign},
	{21, 2, 0, api.ErrAlign},
	{23, 2, 0, api.ErrAlign},
	{18, 4, 0, api.ErrAlign},
	{22, 4, 0, api.ErrAlign},
	{20, 8, 0, api.ErrAlign},
	{28, 8, 0, api.ErrAlign},
	{last, 2, 0, api.ErrAlign},
	{last, 4, 0, api.ErrAlign},
	{last - 1, 4, 0, api.ErrAlign},
	{last, 8, 0, api.ErrAlign},
	{last - 3, 8, 0, api.ErrAlign},
}

// noSizes are of no number.
var noSizes = []int{0, -1, -2, -4, -8, 3, 5, 6, 7, 9, 10, 12, 16, 32, 64, 256, 257, 1<<32 + 1, 1<<32 + 8, math.MinInt, math.MinInt + 8, math.MaxInt}

// refused tells the places of which there is no number, those with no size of a number among them: that is told ahead of all else.
func refused() []place {
	l := slices.DeleteFunc(slices.Clone(places), func(p place) bool { return p.e == api.OK })
	for _, size := range noSizes {
		for _, at := range []uint64{0, 1, 4, 21, 22, 23, 24, last - 7, last} {
			l = append(l, place{at, size, 0, api.ErrArg})
		}
	}
	return l
}

// P5.2: the number that the bytes are, the lowest one first.
func TestLoad(t *testing.T) {
	m := counted(t, 22)
	for _, p := range append(refused(), places...) {
		if v, e := m.Load(p.at, p.size); v != p.v || e != p.e {
			t.Errorf("%d bytes at %x: %x and %d, not %x and %d", p.size, p.at, v, int(e), p.v, int(p.e))
		}
	}
	if !bytes.Equal(whole(t, m), whole(t, counted(t, 22))) {
		t.Errorf("loads changed the memory: %x", whole(t, m))
	}
}

// P5.2, P5.4: the bytes are the number's lowest ones, and no other byte changes.
func TestStore(t *testing.T) {
	const v = 0xf1e2d3c4b5a69788
	low := []byte{0x88, 0x97, 0xa6, 0xb5, 0xc4, 0xd3, 0xe2, 0xf1}
	for _, p := range places {
		if p.e != api.OK {
			continue
		}
		m := counted(t, 22)
		want := whole(t, m)
		copy(want[p.at:], low[:p.size])
		if e := m.Store(p.at, p.size, v); e != api.OK {
			t.Errorf("%d bytes at %x: %d", p.size, p.at, int(e))
		}
		if got := whole(t, m); !bytes.Equal(got, want) {
			t.Errorf("%d bytes at %x: %x, not %x", p.size, p.at, got, want)
		}
	}
}

// P5.2, P5.5: what is refused has the first of its errors, and changes nothing.
func TestStoreRefuses(t *testing.T) {
	m := counted(t, 22)
	for _, p := range refused() {
		if e := m.Store(p.at, p.size, last); e != p.e {
			t.Errorf("%d bytes at %x: %d, not %d", p.size, p.at, int(e), int(p.e))
		}
		if !bytes.Equal(whole(t, m), whole(t, counted(t, 22))) {
			t.Fatalf("%d bytes at %x: %x", p.size, p.at, whole(t, m))
		}
	}
}

// Example 1.
func TestTheLowestByteIsFirst(t *testing.T) {
	m := memory.New(16)
	if e := m.Store(8, 4, 0x01020304); e != api.OK {
		t.Error(int(e))
	}
	if v, e := m.Load(8, 1); v != 4 || e != api.OK {
		t.Errorf("%x and %d", v, int(e))
	}
}

// P5.2: a memory of no bytes, and of one.
func TestLeastMemories(t *testing.T) {
	for _, size := range []int{1, 2, 4, 8} {
		want := api.ErrOut
		if _, e := memory.New(0).Load(0, size); e != want {
			t.Errorf("of 0 bytes %d at 0: %d", size, int(e))
		}
		if size == 1 {
			want = api.OK
		}
		m := memory.New(1)
		if e := m.Store(0, size, 0x1ff); e != want {
			t.Errorf("of 1 byte %d at 0: %d", size, int(e))
		}
		if v, e := m.Load(0, size); e != want || want == api.OK && v != 0xff {
			t.Errorf("of 1 byte %d at 0: %x and %d", size, v, int(e))
		}
	}
}

// P5.1, P5.2: the greatest memory has its last places.
func TestGreatestMemory(t *testing.T) {
	m := memory.New(api.MaxMemory)
	for _, size := range []int{1, 2, 4, 8} {
		at := uint64(api.MaxMemory - size)
		if e := m.Store(at, size, 0xa1b2c3d4e5f60718); e != api.OK {
			t.Errorf("%d bytes at %x: %d", size, at, int(e))
		}
		if v, e := m.Load(at, size); v != 0xa1b2c3d4e5f60718&(1<<(8*size)-1) || e != api.OK {
			t.Errorf("%d bytes at %x: %x and %d", size, at, v, int(e))
		}
		if e := m.Store(api.MaxMemory, size, 1); e != api.ErrOut {
			t.Errorf("%d bytes at MaxMemory: %d", size, int(e))
		}
	}
}

// P5.4: what is stored is loaded byte by byte, whatever the sizes are: held against a plain list of bytes.
func TestSizesMix(t *testing.T) {
	const n = 64
	m, plain := memory.New(n), make([]byte, n)
	row := uint64(1)
	next := func() uint64 {
		row = row*6364136223846793005 + 1442695040888963407
		return row >> 20
	}
	for range 4000 {
		size := 1 << (next() % 4)
		at := next() % n / uint64(size) * uint64(size)
		v := next()<<32 ^ next()
		if e := m.Store(at, size, v); e != api.OK {
			t.Fatalf("%d bytes at %d: %d", size, at, int(e))
		}
		for k := range size {
			plain[at+uint64(k)] = byte(v >> (8 * k))
		}
		size = 1 << (next() % 4)
		at = next() % n / uint64(size) * uint64(size)
		want := uint64(0)
		for k := size - 1; k >= 0; k-- {
			want = want<<8 | uint64(plain[at+uint64(k)])
		}
		if v, e := m.Load(at, size); v != want || e != api.OK {
			t.Fatalf("%d bytes at %d: %x and %d, not %x", size, at, v, int(e), want)
		}
		if !bytes.Equal(whole(t, m), plain) {
			t.Fatalf("%x, not %x", whole(t, m), plain)
		}
	}
}
