package machine

import (
	"postbag/alu"
	"postbag/api"
	"postbag/inst"
)

// fetched tells the instruction at a place.
func (m *Machine) fetched(pc uint64) (api.Inst, api.Errno) {
	w, e := m.memory.Load(pc, 4)
	if e != api.OK {
		return api.Inst{}, e
	}
	return inst.Decode(uint32(w))
}

// waits tells whether a hart's instruction waits. Where there is none nothing
// waits: to issue it stops the hart, whatever is open.
func (m *Machine) waits(h *hart) bool {
	if len(h.open) == 0 {
		return false
	}
	i, e := m.fetched(h.pc)
	if e != api.OK {
		return false
	}
	if i.Op == api.OpEcall || len(h.open) >= api.MaxPending {
		return true
	}
	for _, r := range inst.Uses(i) {
		if h.missing(r) {
			return true
		}
	}
	return h.missing(inst.Sets(i))
}

// issue issues a hart's instruction, which does not wait, or stops the hart.
func (m *Machine) issue(number int) {
	h := &m.harts[number]
	i, e := m.fetched(h.pc)
	if e == api.OK {
		e = m.halting(h, i)
	}
	if e != api.OK {
		h.stopped = e
		return
	}
	pc := following(i, h.pc, h.x[i.Rs1], h.x[i.Rs2])
	switch {
	case i.Op == api.OpEcall:
		m.events = append(m.events, Event{number, h.x[17], h.x[10], h.x[11]})
	case i.Op == api.OpFence, inst.Loads(i.Op), inst.Stores(i.Op):
		m.open(h, i)
	default:
		h.reckon(i)
	}
	h.pc = pc
	h.issued++
}

// halting tells the error with which an instruction stops its hart; OK, if it does not.
func (m *Machine) halting(h *hart, i api.Inst) api.Errno {
	switch {
	case i.Op == api.OpEbreak, i.Op == api.OpEcall && h.x[17] == 0:
		return api.ErrHalt
	case inst.Loads(i.Op), inst.Stores(i.Op):
		// A Store has the same errors.
		_, e := m.memory.Load(alu.Address(i, h.x[i.Rs1]), inst.Size(i.Op))
		return e
	}
	return api.OK
}

// following tells where the next instruction is.
func following(i api.Inst, pc, a, b uint64) uint64 {
	if branch(i.Op) && !alu.Taken(i, a, b) {
		return pc + 4
	}
	return alu.Target(i, pc, a)
}

// branch tells whether an operation is a branch.
func branch(op int) bool {
	return op >= api.OpBeq && op <= api.OpBgeu
}

// reckon does an instruction that is done when it is issued.
func (h *hart) reckon(i api.Inst) {
	read := together(h.hangs[i.Rs1], h.hangs[i.Rs2])
	if branch(i.Op) || i.Op == api.OpJalr {
		h.asked.ask(read)
		read = nil // where a jalr came from hangs on nothing that it read
	}
	if rd := inst.Sets(i); rd != 0 {
		v, _ := alu.Value(i, h.pc, h.x[i.Rs1], h.x[i.Rs2])
		h.set(rd, v)
		h.hangs[rd] = read
	}
}

// open opens what loads or stores, or is a fence.
func (m *Machine) open(h *hart, i api.Inst) {
	a, b := h.x[i.Rs1], h.x[i.Rs2]
	op := api.Op{
		ID: m.next, Load: inst.Loads(i.Op), Store: inst.Stores(i.Op),
		Addr: alu.Address(i, a), Size: inst.Size(i.Op), Aq: i.Aq, Rl: i.Rl, Pair: nobody,
		Addrs: h.hangs[i.Rs1], Datas: h.hangs[i.Rs2],
	}
	if i.Op == api.OpFence {
		op.Fence, op.Pred, op.Succ = true, i.Imm>>4&3, i.Imm&3
	}
	if !op.Load {
		op.Stored = alu.Stored(i.Op, 0, b)
	}
	m.next++
	o := opened{issued{op, len(h.asked.ids)}, i.Op, inst.Sets(i), b}
	h.pairs(&o)
	h.open = append(h.open, o)
	if o.sets != 0 {
		h.hangs[o.sets] = o.hung()
	}
	h.pass()
}

// pairs gives an sc its lr, and keeps an lr for its sc.
func (h *hart) pairs(o *opened) {
	switch {
	case o.sc():
		o.op.Pair, h.pair = h.pair, nobody
	case inst.Atomic(o.kind) && !o.op.Store:
		h.pair = o.op.ID
	}
}

// hung tells on what the register hangs that an operation sets.
func (o *opened) hung() []int {
	if !o.op.Load {
		return nil
	}
	return []int{o.op.ID}
}
