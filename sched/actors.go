package sched

import (
	"postbag/api"
	"postbag/copying"
	"postbag/image"
	"postbag/items"
)

// An actor's word has its number above so many bits, in which it has the tag.
const (
	tagBits = 2
	tag     = 3
)

// half is how many bits of a register have an address: there is room for two.
const half = 32

// fresh is the routine new.
func (s system) fresh() []api.Item {
	w := items.Begin("new")
	number, copied, store := w.Number, w.Copy, w.Store
	r := items.Spare()
	one, at, most := r[0], r[1], r[2]
	record, count := items.First, other
	copied(back, items.From)
	number(api.OpAddi, one, items.Zero, 1)
	number(api.OpAddi, at, items.Globals, items.Offset(image.GNext))
	// Nobody but this one looks at GNext: each that does makes an actor.
	w.Inst(api.Inst{Op: api.OpAmoaddd, Rd: count, Rs1: at, Rs2: one})
	w.Const(most, uint64(s.c.Actors))
	w.Branch(api.OpBgeu, count, most, "full")
	number(api.OpAddi, at, items.Globals, items.Offset(image.GLive))
	w.Inst(api.Inst{Op: api.OpAmoaddd, Rs1: at, Rs2: one})
	s.record(w, record, count, most)
	w.Jump(items.From, "mailbox.init")
	s.record(w, record, count, most)
	for _, n := range []int{image.WState, image.WSave, image.WLast} {
		store(items.Zero, record, n)
	}
	s.heap(w, record)
	number(api.OpSlli, items.Second, count, tagBits)
	number(api.OpAddi, items.Second, items.Second, tag)
	copied(items.From, back)
	w.Back()
	return w.Items()
}

// heap lays what gives a record an empty heap, as the last thing that it needs to be one.
func (s system) heap(w *items.Writer, record int) {
	r := items.Spare()
	heap, behind, at := r[0], r[1], r[2]
	store := w.Store
	w.Const(heap, uint64(items.Offset(image.WSlots+s.l.Slots)))
	w.Both(api.OpAdd, heap, heap, record)
	w.Const(behind, uint64(items.Offset(s.c.Words)))
	w.Both(api.OpAdd, behind, behind, heap)
	store(heap, record, image.WAlloc)
	store(behind, record, image.WLimit)
	store(behind, record, image.WOther)
	w.Number(api.OpAddi, at, record, items.Offset(image.WHeap))
	// Release: whoever sees that there is a heap sees a whole record. Acquire: whoever sees what is done next sees one, and an actor more that lives.
	w.Inst(api.Inst{Op: api.OpAmoswapd, Rs1: at, Rs2: heap, Aq: true, Rl: true})
}

// send is the routine that sends a message.
func (s system) send() []api.Item {
	w := items.Begin("send")
	own := items.Own("send")
	number, copied := w.Number, w.Copy
	r := items.Spare()
	record := r[0]
	s.receiver(w, own("leave"), record)
	number(api.OpSlli, back, items.From, half)
	w.Both(api.OpOr, back, back, record)
	copied(other, items.Second)
	w.Jump(items.From, "alloc")
	w.Branch(api.OpBeq, items.First, items.Zero, "full")
	block, to, end, lacks := items.Second, 12, 13, 15
	copied(block, items.First)
	copied(items.First, other)
	number(api.OpAddi, to, block, items.Offset(image.BData))
	number(api.OpAddi, end, block, items.Offset(image.BlockWords))
	w.Jump(items.From, copying.Name(copying.Out))
	w.Branch(api.OpBne, lacks, items.Zero, "full")
	w.Store(items.First, block, image.BRoot)
	number(api.OpSlli, items.First, back, half)
	number(api.OpSrli, items.First, items.First, half)
	w.Jump(items.From, "push")
	number(api.OpSrli, items.From, back, half)
	w.Label(own("leave"))
	w.Back()
	return w.Items()
}

// receiver lays what gives a register the address of the record of the actor whose word is given; if there is no such actor, it goes to a label.
func (s system) receiver(w *items.Writer, nobody string, record int) {
	number, load, branch := w.Number, w.Load, w.Branch
	r := items.Spare()
	count, most, state, heap := r[1], r[2], r[1], r[2]
	number(api.OpAndi, count, items.First, tag)
	number(api.OpAddi, most, items.Zero, tag)
	branch(api.OpBne, count, most, nobody)
	number(api.OpSrli, count, items.First, tagBits)
	w.Const(most, uint64(s.c.Actors))
	branch(api.OpBgeu, count, most, nobody)
	s.record(w, record, count, most)
	// One that was made has a heap, also ahead of its beginning. What is done to its queue hangs on that, so it is stored behind it.
	load(state, record, image.WState)
	load(heap, record, image.WHeap)
	w.Both(api.OpOr, heap, heap, state)
	branch(api.OpBeq, heap, items.Zero, nobody)
}
