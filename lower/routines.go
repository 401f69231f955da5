package lower

import (
	"postbag/api"
	"postbag/copying"
	"postbag/image"
	"postbag/items"
)

// The registers in which routines keep something while they call others.
const (
	back = 26 // where they were called from
	kept = 27
)

// The registers of copies, besides those of all routines.
const (
	to     = 12 // behind which address a value is laid
	end    = 13 // where the room ends
	within = 14 // the block in which it stands
	lacks  = 15 // whether there is no room
)

// rest lays the routine that lets other actors run: it comes back when it is this one's turn again.
func (l *lowering) rest() {
	l.Label("lower.rest")
	l.Store(items.From, items.Record, image.WPC)
	l.Jump(items.Zero, "sched.skip")
}

// give lays the routine that gives the actor that is being made one value more.
func (l *lowering) give() {
	from := block // no copy changes it
	l.Label("lower.give")
	l.Copy(from, items.From)
	l.Load(to, made, image.WAlloc)
	l.Load(end, made, image.WLimit)
	l.call(copying.Name(copying.Own))
	l.Branch(api.OpBne, lacks, items.Zero, "full")
	l.Store(items.First, gets, 0)
	l.Number(api.OpAddi, gets, gets, items.Offset(1))
	l.Store(to, made, image.WAlloc)
	l.Copy(items.From, from)
	l.Back()
}

// begin lays the routine that lets the actor that is being made begin at an address.
func (l *lowering) begin() {
	l.Label("lower.begin")
	l.Store(items.First, made, image.WPC)
	l.Number(api.OpAddi, one, items.Zero, 1)
	l.Number(api.OpAddi, two, made, items.Offset(image.WState))
	// Release: whoever sees that it runs sees all that it was given.
	l.Inst(api.Inst{Op: api.OpAmoswapd, Rs1: two, Rs2: one, Rl: true})
	l.Back()
}

// more lays the routine that puts a message behind the record's list: it tells its block, or 0, if there is none, and what leads to it. WLast is where the word stands that is to lead to the next one, unless the list is empty.
func (l *lowering) more() {
	own := items.Own("lower.more")
	l.Label("lower.more")
	l.Copy(back, items.From)
	l.Copy(items.First, items.Record)
	l.call("pop")
	l.Branch(api.OpBeq, items.First, items.Zero, own("leave"))
	l.Load(one, items.Record, image.WSave)
	l.Load(link, items.Record, image.WLast)
	l.Branch(api.OpBne, one, items.Zero, own("put"))
	l.Number(api.OpAddi, link, items.Record, items.Offset(image.WSave))
	l.Label(own("put"))
	l.Store(items.Zero, items.First, image.BNext)
	l.Store(items.First, link, 0)
	l.Number(api.OpAddi, one, items.First, items.Offset(image.BNext))
	l.Store(one, items.Record, image.WLast)
	l.Label(own("leave"))
	l.Copy(items.From, back)
	l.Back()
}

// take lays the routine that receives a message: its value is laid into the heap, in which so many slots are to be kept as First has, and its word told; its block leaves the list and is free.
func (l *lowering) take() {
	own := items.Own("lower.take")
	load, store, branch := l.Load, l.Store, l.Branch
	lay := func() {
		load(items.First, block, image.BRoot)
		load(to, items.Record, image.WAlloc)
		load(end, items.Record, image.WLimit)
		l.Copy(within, block)
		l.call(copying.Name(copying.In))
	}
	l.Label("lower.take")
	l.Copy(back, items.From)
	l.Copy(kept, items.First)
	lay()
	branch(api.OpBeq, lacks, items.Zero, own("laid"))
	l.Copy(items.First, kept)
	l.call("collect")
	lay()
	branch(api.OpBne, lacks, items.Zero, "full")
	l.Label(own("laid"))
	store(to, items.Record, image.WAlloc)
	l.Copy(kept, items.First)
	load(one, block, image.BNext)
	store(one, link, 0)
	branch(api.OpBne, one, items.Zero, own("free"))
	store(link, items.Record, image.WLast)
	l.Label(own("free"))
	l.Copy(items.First, block)
	l.call("free")
	l.Copy(items.First, kept)
	l.Copy(items.From, back)
	l.Back()
}
