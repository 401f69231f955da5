package memory_test

import (
	"bytes"
	"math"
	"testing"

	"postbag/api"
	"postbag/memory"
)

// part is bytes of a memory of 22 bytes, and the error that they have.
type part struct {
	at uint64
	n  int
	e  api.Errno
}

var parts = []part{
	{0, 0, api.OK},
	{0, 1, api.OK},
	{3, 5, api.OK}, // nothing is asked of where bytes stand
	{0, 22, api.OK},
	{21, 1, api.OK},
	{19, 3, api.OK},
	{21, 0, api.OK},
	{22, 0, api.OK}, // at Len
	{22, 1, api.ErrOut},
	{23, 0, api.ErrOut},
	{0, 23, api.ErrOut},
	{21, 2, api.ErrOut},
	{19, 4, api.ErrOut},
	{1, 22, api.ErrOut},
	{1 << 32, 0, api.ErrOut},
	{1 << 63, 0, api.ErrOut},
	{1 << 63, 1, api.ErrOut},
	{last, 0, api.ErrOut},
	{last, 1, api.ErrOut},
	{last, 2, api.ErrOut}, // these come round to 0 and 1
	{last - 7, 8, api.ErrOut},
	{last - 7, 9, api.ErrOut},
	{last - 20, 22, api.ErrOut},
}

// P5.3: n bytes from a place on.
func TestBytes(t *testing.T) {
	m := counted(t, 22)
	all := whole(t, m)
	for _, p := range parts {
		b, e := m.Bytes(p.at, p.n)
		if e != p.e {
			t.Errorf("%d at %x: %d, not %d", p.n, p.at, int(e), int(p.e))
		}
		if e != api.OK && len(b) != 0 || e == api.OK && !bytes.Equal(b, all[p.at:p.at+uint64(p.n)]) {
			t.Errorf("%d at %x: %x", p.n, p.at, b)
		}
	}
	for _, n := range []int{1 << 32, 1<<32 + 1, math.MaxInt - 21, math.MaxInt} {
		for _, at := range []uint64{0, 1, 22, last - 7, last} {
			if b, e := m.Bytes(at, n); len(b) != 0 || e != api.ErrOut {
				t.Errorf("%d at %x: %d bytes and %d", n, at, len(b), int(e))
			}
		}
	}
}

// P5.3: fewer than 0 bytes are none, and that is told ahead of a place that is out.
func TestBytesRefusesFewerThan0(t *testing.T) {
	for _, m := range []*memory.Memory{memory.New(0), counted(t, 22)} {
		for _, n := range []int{-1, -8, math.MinInt, math.MinInt + 22} {
			for _, at := range []uint64{0, 1, 8, 22, 23, last - 7, last} {
				if b, e := m.Bytes(at, n); len(b) != 0 || e != api.ErrArg {
					t.Errorf("%d at %x: %d bytes and %d", n, at, len(b), int(e))
				}
			}
		}
	}
}

// P5.3: bytes are in memory of their own, with nothing of the memory behind them.
func TestBytesAreTheirOwn(t *testing.T) {
	m := counted(t, 22)
	was := whole(t, m)
	for _, n := range []int{0, 1, 4, 8} {
		b, _ := m.Bytes(8, n)
		for k := range b {
			b[k] = 0xee
		}
		for k, c := range b[n:cap(b)] {
			if c != 0 {
				t.Errorf("%d bytes: %x stands %d behind them", n, c, k)
			}
		}
		_ = append(b, 0xee)
		if !bytes.Equal(whole(t, m), was) {
			t.Errorf("%d bytes: the memory is %x", n, whole(t, m))
		}
	}
	b, _ := m.Bytes(8, 4)
	m.Store(8, 4, 0)
	if !bytes.Equal(b, was[8:12]) {
		t.Errorf("a store shows in bytes told ahead of it: %x", b)
	}
}

// P5.3: bytes are laid, and no other byte changes.
func TestPut(t *testing.T) {
	for _, p := range parts {
		m := counted(t, 22)
		want := whole(t, m)
		b := bytes.Repeat([]byte{0xee}, p.n)
		if p.e == api.OK {
			copy(want[p.at:], b)
		}
		if e := m.Put(p.at, b); e != p.e {
			t.Errorf("%d at %x: %d, not %d", p.n, p.at, int(e), int(p.e))
		}
		// P5.5: what is refused changes nothing, not even those bytes that are there.
		if got := whole(t, m); !bytes.Equal(got, want) {
			t.Errorf("%d at %x: %x, not %x", p.n, p.at, got, want)
		}
	}
	m := counted(t, 22)
	if e := m.Put(22, nil); e != api.OK {
		t.Errorf("nothing at Len: %d", int(e))
	}
	if e := m.Put(23, nil); e != api.ErrOut {
		t.Errorf("nothing behind Len: %d", int(e))
	}
	if e := memory.New(0).Put(0, nil); e != api.OK {
		t.Errorf("nothing into nothing: %d", int(e))
	}
	if e := memory.New(0).Put(0, []byte{1}); e != api.ErrOut {
		t.Errorf("a byte into nothing: %d", int(e))
	}
}

// P5.3: what is laid is not kept, and neither it nor its spare room is changed or read.
func TestPutLeavesTheListAlone(t *testing.T) {
	l := []byte{1, 2, 3, 4, 5, 6}
	m := memory.New(8)
	m.Put(1, l[1:3])
	if b := whole(t, m); !bytes.Equal(b, []byte{0, 2, 3, 0, 0, 0, 0, 0}) {
		t.Errorf("%x", b)
	}
	m.Store(0, 8, last)
	if !bytes.Equal(l, []byte{1, 2, 3, 4, 5, 6}) {
		t.Errorf("a store shows in the list: %x", l)
	}
	m.Put(1, l[1:3])
	l[1] = 9
	if v, _ := m.Load(1, 1); v != 2 {
		t.Errorf("a change of the list shows in the memory: %x", v)
	}
}

// P5.3, P5.4: bytes and numbers are of one memory.
func TestBytesAndNumbers(t *testing.T) {
	m := memory.New(16)
	m.Put(3, []byte("postbag"))
	if v, e := m.Load(4, 4); v != 'o'|'s'<<8|'t'<<16|'b'<<24 || e != api.OK {
		t.Errorf("%x and %d", v, int(e))
	}
	m.Store(8, 2, 'x'|'y'<<8)
	if b, e := m.Bytes(2, 9); string(b) != "\x00postbxy\x00" || e != api.OK {
		t.Errorf("%q and %d", b, int(e))
	}
}

// P5.3: a clone has the same bytes, and goes its own way.
func TestClone(t *testing.T) {
	m := counted(t, 22)
	was := whole(t, m)
	c := m.Clone()
	if c == m || c.Len() != 22 || !bytes.Equal(whole(t, c), was) {
		t.Fatalf("%d bytes: %x", c.Len(), whole(t, c))
	}
	c.Store(8, 8, last)
	c.Put(0, []byte{0xee})
	if !bytes.Equal(whole(t, m), was) {
		t.Errorf("what is done to the clone shows: %x", whole(t, m))
	}
	now := whole(t, c)
	m.Store(16, 4, 0)
	m.Put(3, []byte{0xdd})
	if !bytes.Equal(whole(t, c), now) {
		t.Errorf("what is done to the first one shows: %x", whole(t, c))
	}
	if d := c.Clone(); !bytes.Equal(whole(t, d), now) {
		t.Errorf("the clone's clone: %x", whole(t, d))
	}
	for _, n := range []int{0, 1, api.MaxMemory} {
		if c := memory.New(n).Clone(); c == nil || c.Len() != n {
			t.Errorf("no clone of %d bytes", n)
		}
	}
}

// P5.2, P5.3: of a nil memory, and of one that no call made, there is nothing, whatever else is wrong.
func TestNoMemory(t *testing.T) {
	for _, m := range []*memory.Memory{nil, {}, memory.New(-1), (*memory.Memory)(nil).Clone()} {
		if m.Len() != 0 || m.Clone() != nil {
			t.Errorf("%d bytes, or a clone", m.Len())
		}
		for _, at := range []uint64{0, 1, 8, last - 7, last} {
			for _, n := range []int{0, 1, 2, 3, 4, 8, -1, math.MinInt, math.MaxInt} {
				if v, e := m.Load(at, n); v != 0 || e != api.ErrNil {
					t.Errorf("Load of %d at %x: %x and %d", n, at, v, int(e))
				}
				if e := m.Store(at, n, 1); e != api.ErrNil {
					t.Errorf("Store of %d at %x: %d", n, at, int(e))
				}
				if b, e := m.Bytes(at, n); len(b) != 0 || e != api.ErrNil {
					t.Errorf("Bytes of %d at %x: %x and %d", n, at, b, int(e))
				}
			}
			for _, b := range [][]byte{nil, {}, {1}, {1, 2, 3}} {
				if e := m.Put(at, b); e != api.ErrNil {
					t.Errorf("Put of %x at %x: %d", b, at, int(e))
				}
			}
		}
		if m.Len() != 0 || m.Clone() != nil {
			t.Errorf("behind all that %d bytes, or a clone", m.Len())
		}
	}
}
