package machine

import (
	"cmp"
	"slices"

	"postbag/api"
)

// Last tells the operation that was performed last, and how many were.
func (m *Machine) Last() (api.Op, int) {
	if !m.made() {
		return api.Op{}, 0
	}
	return m.last, len(m.order)
}

// listless tells an operation without From, Addrs, Datas and Ctrls.
func listless(op api.Op) api.Op {
	op.From, op.Addrs, op.Datas, op.Ctrls = nil, nil, nil, nil
	return op
}

// Trace tells all operations, and the order of all memory.
func (m *Machine) Trace() ([][]api.Op, []int) {
	if !m.made() {
		return nil, nil
	}
	lists := make([][]api.Op, len(m.harts))
	for k := range m.harts {
		lists[k] = m.harts[k].trace()
	}
	return lists, slices.Clone(m.order)
}

// trace tells a hart's operations in program order: that of their IDs.
func (h *hart) trace() []api.Op {
	l := slices.Clone(h.done)
	for _, o := range h.opens() {
		l = append(l, o.issued)
	}
	slices.SortFunc(l, func(a, b issued) int { return cmp.Compare(a.op.ID, b.op.ID) })
	ops := make([]api.Op, len(l))
	for k, i := range l {
		ops[k] = h.whole(i)
	}
	return ops
}

// whole tells an operation with its Ctrls, and all lists in memory of their own.
func (h *hart) whole(i issued) api.Op {
	op := i.op
	op.From = slices.Clone(op.From)
	op.Addrs = slices.Clone(op.Addrs)
	op.Datas = slices.Clone(op.Datas)
	op.Ctrls = h.asked.first(i.ctrls)
	return op
}

// Clone tells a machine that goes on as this one.
func (m *Machine) Clone() *Machine {
	if !m.made() {
		return nil
	}
	c := *m
	c.memory = m.memory.Clone()
	c.harts = make([]hart, len(m.harts))
	for k := range m.harts {
		c.harts[k] = m.harts[k].clone()
	}
	c.writers = m.writers.clone()
	c.order = slices.Clone(m.order)
	c.events = slices.Clone(m.events)
	return &c
}
