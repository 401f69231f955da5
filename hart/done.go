package hart

import (
	"postbag/alu"
	"postbag/api"
	"postbag/inst"
	"postbag/memory"
)

// done does what an instruction does beside going on: it tells the hart with
// the hold that it has then, and what Rd gets. With an error the memory is as
// it was, and the hart that is told is of no use.
func done(h Hart, i api.Inst, a, b uint64, m *memory.Memory) (Hart, uint64, api.Errno) {
	if !inst.Loads(i.Op) && !inst.Stores(i.Op) {
		// A branch or a fence reckons nothing. That is no error here: they set no register.
		v, _ := alu.Value(i, h.PC, a, b)
		return h, v, api.OK
	}
	at, size := alu.Address(i, a), inst.Size(i.Op)
	switch i.Op {
	case api.OpLrw, api.OpLrd:
		h.Held, h.Address, h.Size = true, at, size
	case api.OpScw, api.OpScd:
		succeeds := h.Held && h.Address == at && h.Size == size
		h.Held, h.Address, h.Size = false, 0, 0
		if !succeeds {
			return h, 1, api.OK
		}
	}
	old, e := moved(i.Op, at, size, b, m)
	// Nothing is loaded by an sc: that is the 0 which it gives where it succeeds.
	return h, alu.Loaded(i.Op, old), e
}

// moved loads and stores what an operation does, and tells what was there; 0, if it does not load.
func moved(op int, at uint64, size int, b uint64, m *memory.Memory) (uint64, api.Errno) {
	var old uint64
	var e api.Errno
	if inst.Loads(op) {
		old, e = m.Load(at, size)
	}
	if e == api.OK && inst.Stores(op) {
		e = m.Store(at, size, alu.Stored(op, old, b))
	}
	return old, e
}
