package sched

import (
	"postbag/api"
	"postbag/image"
	"postbag/items"
)

// What an ecall is told that it is, in the register code: that the hart stops, that it tells a value, that memory is full.
const (
	halt  = 0
	value = 1
	none  = 2
)

const code = 17

// event lays an ecall.
func event(w *items.Writer, kind int) {
	w.Number(api.OpAddi, code, items.Zero, kind)
	w.Inst(api.Inst{Op: api.OpEcall})
}

// tell is the routine that tells a value.
func tell() []api.Item {
	w := items.Begin("tell")
	own := items.Own("tell")
	r := items.Spare()
	lock, out := r[0], r[1]
	locked(w, own("again"), lock)
	w.Load(out, items.Globals, image.GFull)
	w.Branch(api.OpBne, out, items.Zero, own("late"))
	w.Copy(items.Second, items.Zero)
	event(w, value)
	unlocked(w, lock)
	w.Back()
	w.Label(own("late"))
	unlocked(w, lock)
	w.Jump(items.Zero, "sched.end")
	return w.Items()
}

// full is where a hart goes on for which memory is out.
func full() []api.Item {
	w := items.Begin("full")
	own := items.Own("full")
	r := items.Spare()
	lock, out, one := r[0], r[1], r[2]
	locked(w, own("again"), lock)
	w.Load(out, items.Globals, image.GFull)
	w.Branch(api.OpBne, out, items.Zero, own("told"))
	w.Number(api.OpAddi, one, items.Zero, 1)
	w.Store(one, items.Globals, image.GFull)
	w.Copy(items.First, items.Zero)
	w.Copy(items.Second, items.Zero)
	event(w, none)
	w.Label(own("told"))
	unlocked(w, lock)
	w.Jump(items.Zero, "sched.end")
	return w.Items()
}

// locked lays what waits till GLock is the hart's own; its address comes into a register. Acquire: what is asked behind it is what the one that had it left.
func locked(w *items.Writer, again string, lock int) {
	r := items.Spare()
	was, one := r[1], r[2]
	w.Number(api.OpAddi, lock, items.Globals, items.Offset(image.GLock))
	w.Number(api.OpAddi, one, items.Zero, 1)
	w.Label(again)
	w.Inst(api.Inst{Op: api.OpAmoswapd, Rd: was, Rs1: lock, Rs2: one, Aq: true})
	w.Branch(api.OpBne, was, items.Zero, again)
}

// unlocked lays what lets GLock go. Release: all that was done with it is done.
func unlocked(w *items.Writer, lock int) {
	w.Inst(api.Inst{Op: api.OpAmoswapd, Rs1: lock, Rs2: items.Zero, Rl: true})
}
