package machine

import (
	"iter"
	"slices"

	"postbag/api"
	"postbag/inst"
	"postbag/order"
)

// nobody stands for an ID where there is none: of a writer, or of a pair.
const nobody = -1

// hold is the lr whose sc may succeed, while it is held.
type hold struct {
	held bool
	lr   api.Op
}

// hart is a hart's registers, and what it issued.
type hart struct {
	hold
	pc      uint64
	x       [32]uint64
	hangs   [32][]int // on what each register hangs: IDs, rising, in lists that nobody writes into again
	pair    int       // the last lr with no sc behind it
	asked   asked
	open    []opened
	done    []issued // what is open no more, in the order in which it came to that
	issued  int
	stopped api.Errno
}

// issued is an operation without Ctrls: those are as many as its hart had asked by then.
type issued struct {
	op    api.Op
	ctrls int
}

// opened is an operation that is open.
type opened struct {
	issued
	kind    int    // its instruction's operation
	sets    int    // the register that is missing for it; 0: none
	operand uint64 // what Rs2 had
}

// sc tells whether it is an sc.
func (o *opened) sc() bool {
	return inst.Atomic(o.kind) && !o.op.Load
}

// amo tells whether it is an amo.
func (o *opened) amo() bool {
	return o.op.Load && o.op.Store
}

// plainStore tells whether it stores, and is not atomic.
func (o *opened) plainStore() bool {
	return o.op.Store && !inst.Atomic(o.kind)
}

// begin tells a hart that has done nothing yet.
func begin(number int, pc uint64) hart {
	h := hart{pc: pc, pair: nobody}
	h.x[10] = uint64(number)
	return h
}

// clone tells a hart that goes on as this one.
func (h *hart) clone() hart {
	c := *h
	c.asked = h.asked.clone()
	c.open = slices.Clone(h.open)
	c.done = slices.Clone(h.done)
	return c
}

// opens yields the open operations and their places, in program order.
func (h *hart) opens() iter.Seq2[int, *opened] {
	return func(yield func(int, *opened) bool) {
		for k := range h.open {
			if !yield(k, &h.open[k]) {
				return
			}
		}
	}
}

// missing tells whether a register is missing.
func (h *hart) missing(r int) bool {
	for _, o := range h.opens() {
		if r != 0 && o.sets == r {
			return true
		}
	}
	return false
}

// set gives a register what it has from now on; register 0 has 0 even so.
func (h *hart) set(r int, v uint64) {
	h.x[r] = v
	h.x[0] = 0
}

// barring tells what is asked of an open operation's place: whether that one,
// which is ahead of the one at the place b, stands in its way. A fence never does.
func (h *hart) barring(b int) func(a int) bool {
	l := make([]api.Op, 0, b+1)
	for _, o := range h.opens() {
		if l = append(l, o.op); len(l) > b {
			break
		}
	}
	return func(a int) bool {
		switch order.Rule(l, a, b) {
		case 1, 4, 5, 6, 7, 8:
			return true
		}
		o := &h.open[a]
		return (o.amo() || o.sc() || l[a].Load && l[b].Load) && order.Overlap(l[a], l[b])
	}
}

// barred tells whether something stands in the way of the open operation at a place.
func (h *hart) barred(b int) bool {
	bars := h.barring(b)
	for a := range b {
		if bars(a) {
			return true
		}
	}
	return false
}

// leave has an open operation be open no more, and with it the fences that have nothing ahead then.
func (h *hart) leave(n int) {
	h.open = slices.Delete(h.open, n, n+1)
	h.pass()
}

// pass has fences be open no more that have nothing open ahead of them.
func (h *hart) pass() {
	for len(h.open) > 0 && h.open[0].op.Fence {
		h.done = append(h.done, h.open[0].issued)
		h.open = slices.Delete(h.open, 0, 1)
	}
}
