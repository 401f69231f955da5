package hart_test

import (
	"strings"
	"testing"

	"postbag/alu"
	"postbag/api"
	"postbag/hart"
	"postbag/inst"
	"postbag/listing"
	"postbag/memory"
)

const (
	room  = 256        // bytes of the tests' memories
	all   = ^uint64(0) // -1
	eight = 0x8182838485868788
	other = 0x1112131415161718
	junk  = 0xbad // what stands in register 0 and may not be seen
)

// laidAt tells a memory with the lines' code from a place on.
func laidAt(t *testing.T, pc uint64, lines ...string) *memory.Memory {
	t.Helper()
	l, n, e := listing.Read(strings.Join(lines, "\n") + "\n")
	if e != api.OK {
		t.Fatalf("line %d of %q is no instruction's", n, lines)
	}
	m := memory.New(room)
	for k, i := range l {
		lay(t, m, pc+uint64(4*k), i)
	}
	return m
}

// laid tells a memory with the lines' code from 0 on.
func laid(t *testing.T, lines ...string) *memory.Memory {
	t.Helper()
	return laidAt(t, 0, lines...)
}

// lay puts an instruction's word into a memory.
func lay(t *testing.T, m *memory.Memory, at uint64, i api.Inst) {
	t.Helper()
	w, e := inst.Encode(i)
	if e != api.OK {
		t.Fatalf("%+v may not be", i)
	}
	put(t, m, at, 4, uint64(w))
}

func put(t *testing.T, m *memory.Memory, at uint64, size int, v uint64) {
	t.Helper()
	if e := m.Store(at, size, v); e != api.OK {
		t.Fatalf("%d bytes at %x: %d", size, at, int(e))
	}
}

// whole tells all bytes of a memory.
func whole(m *memory.Memory) string {
	b, _ := m.Bytes(0, m.Len())
	return string(b)
}

// with tells a hart with something in register 0, and these in registers 1, 2 and so on.
func with(x ...uint64) hart.Hart {
	h := hart.Hart{X: [32]uint64{junk}}
	copy(h.X[1:], x)
	return h
}

// step does a step that has no error.
func step(t *testing.T, h hart.Hart, m *memory.Memory) hart.Hart {
	t.Helper()
	next, e := hart.Step(h, m)
	if e != api.OK {
		t.Errorf("at %x: error %d", h.PC, int(e))
	}
	return next
}

// refuses tells what a step's error is, and fails unless hart and memory are as they were.
func refuses(t *testing.T, h hart.Hart, m *memory.Memory) api.Errno {
	t.Helper()
	was := whole(m)
	next, e := hart.Step(h, m)
	if next != h {
		t.Errorf("error %d: the hart is %+v, was %+v", int(e), next, h)
	}
	if whole(m) != was {
		t.Errorf("error %d: the memory has changed", int(e))
	}
	return e
}

// sample tells the instruction of an operation with as many of these fields as its form has.
func sample(op, rd, rs1, rs2, imm int) api.Inst {
	upper := imm << 12
	for _, i := range []api.Inst{
		{Op: op, Rd: rd, Rs1: rs1, Rs2: rs2},
		{Op: op, Rd: rd, Rs1: rs1, Imm: imm},
		{Op: op, Rs1: rs1, Rs2: rs2, Imm: imm},
		{Op: op, Rd: rd, Rs1: rs1},
		{Op: op, Rd: rd, Imm: imm},
		{Op: op, Rd: rd, Imm: upper},
		{Op: op, Imm: imm},
	} {
		if inst.Good(i) {
			return i
		}
	}
	return api.Inst{Op: op}
}

// plainly does a step as the document tells it, in a list of bytes that holds no place out or misaligned.
func plainly(h hart.Hart, i api.Inst, bytes []byte) hart.Hart {
	h.X[0] = 0
	a, b := h.X[i.Rs1], h.X[i.Rs2]
	at, size := alu.Address(i, a), inst.Size(i.Op)
	rd, old := uint64(0), uint64(0)
	for k := size - 1; k >= 0 && inst.Loads(i.Op); k-- {
		old = old<<8 | uint64(bytes[at+uint64(k)])
	}
	stores := inst.Stores(i.Op)
	switch sc := i.Op == api.OpScw || i.Op == api.OpScd; {
	case sc && (!h.Held || h.Address != at || h.Size != size):
		rd, stores = 1, false
		fallthrough
	case sc:
		h.Held, h.Address, h.Size = false, 0, 0
	case inst.Loads(i.Op):
		rd = alu.Loaded(i.Op, old)
	default:
		rd, _ = alu.Value(i, h.PC, a, b)
	}
	if i.Op == api.OpLrw || i.Op == api.OpLrd {
		h.Held, h.Address, h.Size = true, at, size
	}
	for k := 0; k < size && stores; k++ {
		bytes[at+uint64(k)] = byte(alu.Stored(i.Op, old, b) >> (8 * k))
	}
	if i.Op >= api.OpBeq && i.Op <= api.OpBgeu && !alu.Taken(i, a, b) {
		h.PC += 4
	} else {
		h.PC = alu.Target(i, h.PC, a)
	}
	if i.Rd != 0 {
		h.X[i.Rd] = rd
	}
	return h
}
