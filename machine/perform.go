package machine

import (
	"postbag/alu"
	"postbag/api"
	"postbag/inst"
	"postbag/order"
)

// perform performs an open operation, in whose way nothing stands.
func (m *Machine) perform(c Choice) {
	h := &m.harts[c.Hart]
	o := h.open[c.N]
	if o.sc() && !h.succeeds(&o, c.Kind == Perform) {
		h.leave(c.N)
		return
	}
	if o.op.Load {
		m.load(h, c.N, &o)
	}
	if o.op.Store {
		m.store(c.Hart, o.op)
	}
	h.done = append(h.done, o.issued)
	h.leave(c.N)
	m.order = append(m.order, o.op.ID)
	m.last = listless(o.op)
}

// succeeds tells whether an sc stores, which its register tells then; the hold is ended by it.
func (h *hart) succeeds(o *opened, try bool) bool {
	ok := try && h.held && h.lr.ID == o.op.Pair && h.lr.Addr == o.op.Addr && h.lr.Size == o.op.Size
	h.hold = hold{}
	failed := uint64(1)
	if ok {
		failed = 0
	}
	h.set(o.sets, failed)
	return ok
}

// load loads what the open operation o at a place loads, and reckons what an amo stores.
func (m *Machine) load(h *hart, place int, o *opened) {
	op := &o.op
	op.Value, op.From = m.loaded(h, place, *op)
	h.set(o.sets, alu.Loaded(o.kind, op.Value))
	switch {
	case o.amo():
		op.Stored = alu.Stored(o.kind, op.Value, o.operand)
	case inst.Atomic(o.kind):
		h.hold = hold{true, *op}
	}
}

// loaded tells the number that an operation at a place loads, and who wrote
// each of its bytes. Behind a store to bytes of its own no amo gets here: that one stands in its way.
func (m *Machine) loaded(h *hart, place int, op api.Op) (uint64, []int) {
	v, _ := m.memory.Load(op.Addr, op.Size)
	from := make([]int, op.Size)
	for k := range from {
		x, shift := op.Addr+uint64(k), 8*k
		from[k] = m.writers.of(x)
		if s := h.stored(x, place); s != nil {
			from[k] = s.ID
			v = v&^(0xff<<shift) | s.Stored>>(8*(x-s.Addr))&0xff<<shift
		}
	}
	return v, from
}

// stored tells the last open plain store ahead of a place that has a byte; nil, if there is none.
func (h *hart) stored(x uint64, place int) *api.Op {
	var last *api.Op
	for k, o := range h.opens() {
		if k >= place {
			break
		}
		if o.plainStore() && o.op.Addr <= x && x-o.op.Addr < uint64(o.op.Size) {
			last = &o.op
		}
	}
	return last
}

// store stores what a hart's operation stores, and ends the holds of others on it.
func (m *Machine) store(number int, op api.Op) {
	m.memory.Store(op.Addr, op.Size, op.Stored)
	m.writers.wrote(op)
	for k := range m.harts {
		h := &m.harts[k]
		if k != number && h.held && order.Overlap(h.lr, op) {
			h.hold = hold{}
		}
	}
}
