package machine_test

import (
	"math"
	"slices"
	"testing"

	"postbag/api"
	"postbag/machine"
)

// P9.4: of a hart or a register that there is not.
func TestAsksOfNone(t *testing.T) {
	m := laid(t, code("addi x5 x0 7", "sd x0 x5 1024", "ebreak"), code("addi x10 x0 9"))
	issues(t, m, 0, 2)
	do(t, m, issue(0))
	issues(t, m, 1, 1)
	for _, h := range []int{-1, 2, 8, math.MaxInt, math.MinInt} {
		v, ok := m.X(h, 10)
		if m.PC(h) != 0 || v != 0 || ok || m.Open(h) != 0 || m.Issued(h) != 0 || m.Stopped(h) != api.ErrNil {
			t.Errorf("hart %d: PC %d, %d, %t, %d open, %d issued, %d", h, m.PC(h), v, ok, m.Open(h), m.Issued(h), int(m.Stopped(h)))
		}
	}
	for _, r := range []int{-1, 32, 37, math.MaxInt, math.MinInt} {
		if v, ok := m.X(0, r); v != 0 || ok {
			t.Errorf("register %d: %d, %t", r, v, ok)
		}
	}
	has(t, m, 0, 5, 7)
	has(t, m, 0, 31, 0)
}

// P9.4: a Machine that no call made.
func TestNoMachine(t *testing.T) {
	for _, m := range []*machine.Machine{nil, {}} {
		for _, c := range []machine.Choice{{}, {Hart: -1}, {Kind: 7}, perform(0, 0), fail(0, 0)} {
			if e := m.Choose(c); e != api.ErrNil {
				t.Errorf("%+v: error %d", c, int(e))
			}
		}
		for _, n := range []int{0, -1} {
			if c, e := m.Pick(n); c != (machine.Choice{}) || e != api.ErrNil {
				t.Errorf("Pick: %+v, %d", c, int(e))
			}
		}
		for _, n := range []int{0, 1, -1} {
			if b, e := m.Bytes(0, n); b != nil || e != api.ErrNil {
				t.Errorf("Bytes: %v, %d", b, int(e))
			}
		}
		v, ok := m.X(0, 10)
		op, n := m.Last()
		l, gmo := m.Trace()
		if v != 0 || ok || !alike(op, api.Op{}) || n != 0 || len(l) != 0 || len(gmo) != 0 {
			t.Errorf("%d, %t, %+v, %d, %v, %v", v, ok, op, n, l, gmo)
		}
		if m.Harts() != 0 || m.PC(0) != 0 || m.Open(0) != 0 || m.Issued(0) != 0 || m.Stopped(0) != api.ErrNil {
			t.Errorf("%d harts, %d", m.Harts(), int(m.Stopped(0)))
		}
		if len(m.Choices()) != 0 || len(m.Events()) != 0 || m.Clone() != nil {
			t.Errorf("%v, %v, %v", m.Choices(), m.Events(), m.Clone())
		}
	}
}

// P9.4: Bytes is the memory's, with its errors.
func TestBytes(t *testing.T) {
	m := laid(t, code("addi x5 x0 -1", "sh x0 x5 1025", "sh x0 x5 1026"))
	issues(t, m, 0, 1)
	do(t, m, issue(0))
	if b, e := m.Bytes(0, 4); e != api.OK || !slices.Equal(b, []byte{0x93, 0x02, 0xf0, 0xff}) {
		t.Errorf("%x, %d", b, int(e))
	}
	b, e := m.Bytes(data, 4)
	if e != api.OK || len(b) != 4 {
		t.Fatalf("%x, %d", b, int(e))
	}
	b[0] = 9
	if b, _ := m.Bytes(data, 4); b[0] != 0 {
		t.Error("the bytes are shared")
	}
	for _, c := range []struct {
		at   uint64
		n    int
		want api.Errno
	}{{0, -1, api.ErrArg}, {math.MaxUint64, -1, api.ErrArg}, {room, 1, api.ErrOut}, {room, 0, api.OK}, {room + 1, 0, api.ErrOut}, {0, room + 1, api.ErrOut}, {math.MaxUint64, 2, api.ErrOut}, {0, room, api.OK}} {
		if b, e := m.Bytes(c.at, c.n); e != c.want || e == api.OK && len(b) != c.n || e != api.OK && b != nil {
			t.Errorf("%d from %d: %d bytes, error %d, not %d", c.n, c.at, len(b), int(e), int(c.want))
		}
	}
}

// P9.4: Last tells what was performed last, without its lists, and how many were.
func TestLast(t *testing.T) {
	m := laid(t, code(
		"ld x5 x0 1024", "bne x5 x0 8", "addi x5 x5 1024", // 0
		"fence 51", "amoadd.d.aq x6 x5 x5", "sw x5 x5 16", "lr.d x7 x5", "sc.d x8 x5 x6", "ebreak")) // 1 to 5
	last := func(n int, want api.Op) {
		t.Helper()
		op, k := m.Last()
		if k != n || !same(op, want) || op.From != nil || op.Addrs != nil || op.Datas != nil || op.Ctrls != nil {
			t.Errorf("%+v of %d, not %+v of %d", op, k, want, n)
		}
	}
	last(0, api.Op{})
	issues(t, m, 0, 1)
	last(0, api.Op{})
	do(t, m, perform(0, 0))
	load := api.Op{ID: 0, Load: true, Addr: 1024, Size: 8, Pair: -1}
	last(1, load)
	issues(t, m, 0, 4)
	last(1, load)
	do(t, m, perform(0, 0))
	last(2, api.Op{ID: 2, Load: true, Store: true, Addr: 1024, Size: 8, Aq: true, Stored: 1024, Pair: -1})
	issues(t, m, 0, 3)
	do(t, m, perform(0, 1))
	last(3, api.Op{ID: 4, Load: true, Addr: 1024, Size: 8, Value: 1024, Pair: -1})
	do(t, m, perform(0, 0))
	store := api.Op{ID: 3, Store: true, Addr: 1040, Size: 4, Stored: 1024, Pair: -1}
	last(4, store)
	do(t, m, fail(0, 0))
	last(4, store) // an sc that did not store is no operation
}

// P9.4: the lists that Trace tells are its caller's own.
func TestTraceIsItsOwn(t *testing.T) {
	m := laid(t, code("ld x5 x0 1024", "sd x5 x5 1032", "bne x5 x0 8", "sd x0 x0 1040", "ld x6 x5 1024"))
	issues(t, m, 0, 1)
	do(t, m, perform(0, 0))
	issues(t, m, 0, 4)
	do(t, m, perform(0, 0))
	was := all(m)
	l, gmo := m.Trace()
	for k := range l[0] {
		op := &l[0][k]
		for _, list := range [][]int{op.From, op.Addrs, op.Datas, op.Ctrls, gmo} {
			for k := range list {
				list[k] = -99
			}
		}
		op.ID, op.Addr = -99, 7
	}
	l[0] = nil
	if all(m) != was {
		t.Error("an answer is shared")
	}
}

// P9.4: a clone goes on as its machine does, and what is done to one is not seen at the other.
func TestClone(t *testing.T) {
	r := row(21)
	for range 100 {
		m := r.program(t)
		r.play(m, 60)
		was := all(m)
		clones := []*machine.Machine{m.Clone(), m.Clone(), m.Clone()}
		first := r
		var then []string
		for k, c := range clones {
			if all(c) != was {
				t.Fatalf("clone %d is unlike, at first", k)
			}
			r.play(c, 60) // each by a script of its own
			then = append(then, all(c))
		}
		if all(m) != was {
			t.Fatal("what is done to clones is seen at their machine")
		}
		for k, c := range clones {
			if all(c) != then[k] {
				t.Fatalf("what is done to others is seen at clone %d", k)
			}
		}
		first.play(m, 60)
		if all(m) != then[0] {
			t.Fatal("a machine goes on otherwise than its clone")
		}
	}
}

// P9.4: what each of them does behind one beginning is its own, wherever it
// begins: operations, the order, events, and what is hung on.
func TestClonesApart(t *testing.T) {
	var lines []string
	for range 8 {
		lines = append(lines, "ld x5 x0 1024", "bne x5 x0 8", "sd x0 x10 1024", "ecall")
	}
	text := code(append([]string{"addi x17 x0 1"}, lines...)...)
	for begins := range 40 {
		m := laid(t, text, text)
		on := func(m *machine.Machine, h, n int) {
			for range n {
				if m.Open(h) > 0 {
					do(t, m, perform(h, 0))
				}
				m.Choose(issue(h))
			}
		}
		on(m, begins%2, begins)
		one, other := m.Clone(), m.Clone()
		on(one, 0, 8)
		was := all(one)
		on(other, 1, 5)
		on(m, 1, 3)
		on(m, 0, 8)
		if all(one) != was {
			t.Fatalf("begun with %d: what is done to one is seen at another one", begins)
		}
	}
}
