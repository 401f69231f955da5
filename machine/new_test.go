package machine_test

import (
	"testing"

	"postbag/api"
	"postbag/machine"
	"postbag/memory"
)

// P9.1: what harts have at first.
func TestNew(t *testing.T) {
	b := memory.New(64)
	b.Store(8, 8, 0x1122334455667788)
	pcs := []uint64{0, 4, 1 << 63, 0xffffffffffffffff, 7, 64, 0, 12}
	m, e := machine.New(b, pcs)
	if e != api.OK || m.Harts() != api.MaxHarts {
		t.Fatalf("error %d, %d harts", int(e), m.Harts())
	}
	for h, pc := range pcs {
		if m.PC(h) != pc || m.Open(h) != 0 || m.Issued(h) != 0 || m.Stopped(h) != api.OK {
			t.Errorf("hart %d: PC %x, %d open, %d issued, %d", h, m.PC(h), m.Open(h), m.Issued(h), int(m.Stopped(h)))
		}
		for r := range 32 {
			want := uint64(0)
			if r == 10 {
				want = uint64(h)
			}
			has(t, m, h, r, want)
		}
	}
	l, gmo := m.Trace()
	op, n := m.Last()
	if len(l) != 8 || len(l[7]) != 0 || len(gmo) != 0 || n != 0 || op.Load || op.Pair != 0 || len(m.Events()) != 0 {
		t.Errorf("at first: %+v, %d, %+v, %d, %v", l, gmo, op, n, m.Events())
	}
	if word(t, m, 8) != 0x1122334455667788 {
		t.Error("the memory's bytes are missing")
	}
}

// P9.1: the machine has a copy of the memory, and of the PCs.
func TestNewCopies(t *testing.T) {
	b := bytesOf(t, code("addi x5 x0 7", "sd x0 x5 1024", "ebreak"))
	pcs := []uint64{0}
	m, _ := machine.New(b, pcs)
	pcs[0] = 8
	if m.PC(0) != 0 {
		t.Error("the list of PCs is shared")
	}
	b.Store(data, 8, 9)
	b.Store(0, 8, 0)
	if word(t, m, data) != 0 {
		t.Error("the memory that was handed in changes the machine's")
	}
	issues(t, m, 0, 2)
	do(t, m, perform(0, 0))
	if v, _ := b.Load(data, 8); v != 9 || word(t, m, data) != 7 {
		t.Error("the machine changes the memory that was handed in")
	}
}

// P9.1: the errors, in their order.
func TestNewErrors(t *testing.T) {
	for _, c := range []struct {
		name string
		m    *memory.Memory
		pcs  []uint64
		want api.Errno
	}{
		{"nil", nil, []uint64{0}, api.ErrNil},
		{"a memory that no call made", &memory.Memory{}, []uint64{0}, api.ErrNil},
		{"nil, and no pcs", nil, nil, api.ErrNil},
		{"a memory that no call made, and too many", &memory.Memory{}, make([]uint64, 9), api.ErrNil},
		{"no pcs", memory.New(8), nil, api.ErrArg},
		{"an empty list of them", memory.New(8), []uint64{}, api.ErrArg},
		{"one too many", memory.New(8), make([]uint64, api.MaxHarts+1), api.ErrArg},
	} {
		m, e := machine.New(c.m, c.pcs)
		if m != nil || e != c.want {
			t.Errorf("%s: %v, error %d, not %d", c.name, m, int(e), int(c.want))
		}
	}
	for _, harts := range []int{1, api.MaxHarts} {
		if m, e := machine.New(memory.New(0), make([]uint64, harts)); e != api.OK || m.Harts() != harts {
			t.Errorf("%d harts on a memory of no bytes: error %d", harts, int(e))
		}
	}
}
