package machine_test

import (
	"fmt"
	"slices"
	"testing"

	"postbag/alu"
	"postbag/api"
	"postbag/inst"
	"postbag/machine"
	"postbag/memory"
	"postbag/order"
)

// plain is a machine, once more, as the document tells it word by word: all
// operations in one list, and everything asked anew from there.
type plain struct {
	bytes  *memory.Memory
	wrote  map[uint64]int
	harts  []*plainHart
	ops    []*plainOp // by their IDs
	gmo    []int
	events []machine.Event
}

type plainHart struct {
	pc      uint64
	x       [32]uint64
	hangs   [32]map[int]bool
	asked   map[int]bool
	hold    int // an lr's ID
	issued  int
	stopped api.Errno
}

type plainOp struct {
	api.Op
	hart  int
	i     api.Inst
	b     uint64
	open  bool
	never bool // an sc that did not store
}

func plainly(m *memory.Memory, harts int) *plain {
	p := &plain{bytes: m.Clone(), wrote: map[uint64]int{}}
	for h := range harts {
		n := &plainHart{pc: uint64(between * h), hold: -1, asked: map[int]bool{}}
		n.x[10] = uint64(h)
		p.harts = append(p.harts, n)
	}
	return p
}

// open tells a hart's open operations; of those, one that is a fence with nothing ahead is none.
func (p *plain) open(h int) []*plainOp {
	var l []*plainOp
	for _, o := range p.ops {
		if o.hart == h && o.open {
			o.open = !o.Fence || len(l) > 0
			if o.open {
				l = append(l, o)
			}
		}
	}
	return l
}

func (p *plain) missing(h, r int) bool {
	return r != 0 && slices.ContainsFunc(p.open(h), func(o *plainOp) bool { return inst.Sets(o.i) == r })
}

func (p *plain) refused(c machine.Choice) api.Errno {
	if c.Hart < 0 || c.Hart >= len(p.harts) || c.Kind < 0 || c.Kind > 2 {
		return api.ErrArg
	}
	l := p.open(c.Hart)
	if c.Kind == machine.Issue {
		if p.harts[c.Hart].stopped != api.OK {
			return api.ErrHalt
		}
		w, e := p.bytes.Load(p.harts[c.Hart].pc, 4)
		i, bad := inst.Decode(uint32(w))
		if e != api.OK || bad != api.OK {
			return api.OK
		}
		waits := len(l) == api.MaxPending || i.Op == api.OpEcall && len(l) > 0
		for _, r := range append(inst.Uses(i), inst.Sets(i)) {
			waits = waits || p.missing(c.Hart, r)
		}
		if waits {
			return api.ErrWait
		}
		return api.OK
	}
	if c.N < 0 || c.N >= len(l) || l[c.N].Fence || c.Kind == machine.Fail && l[c.N].i.Op != api.OpScw && l[c.N].i.Op != api.OpScd {
		return api.ErrChoice
	}
	for k, a := range l[:c.N] {
		var part []api.Op
		for _, o := range l[k : c.N+1] {
			part = append(part, o.Op)
		}
		b := l[c.N]
		rule := order.Rule(part, 0, len(part)-1)
		atomic := inst.Atomic(a.i.Op) && inst.Stores(a.i.Op)
		if rule == 1 || rule >= 4 && rule <= 8 || order.Overlap(a.Op, b.Op) && (atomic || a.Load && b.Load) {
			return api.ErrWait
		}
	}
	return api.OK
}

func (p *plain) choose(c machine.Choice) api.Errno {
	if e := p.refused(c); e != api.OK {
		return e
	}
	if c.Kind == machine.Issue {
		p.issue(c.Hart)
	} else {
		p.perform(p.open(c.Hart), c.N, c.Kind == machine.Fail)
	}
	return api.OK
}

func (p *plain) issue(number int) {
	h := p.harts[number]
	w, e := p.bytes.Load(h.pc, 4)
	i := api.Inst{}
	if e == api.OK {
		i, e = inst.Decode(uint32(w))
	}
	moves := inst.Loads(i.Op) || inst.Stores(i.Op)
	a, b := h.x[i.Rs1], h.x[i.Rs2]
	if e == api.OK && (i.Op == api.OpEbreak || i.Op == api.OpEcall && h.x[17] == 0) {
		e = api.ErrHalt
	}
	if e == api.OK && moves {
		e = p.bytes.Clone().Store(alu.Address(i, a), inst.Size(i.Op), 0)
	}
	if e != api.OK {
		h.stopped = e
		return
	}
	h.issued++
	rd := inst.Sets(i)
	hangs := map[int]bool{}
	pc := h.pc + 4
	switch {
	case i.Op == api.OpEcall:
		p.events = append(p.events, machine.Event{Hart: number, Code: h.x[17], A: h.x[10], B: h.x[11]})
	case i.Op == api.OpFence || moves:
		op := p.opened(number, i, a, b)
		if inst.Loads(i.Op) {
			hangs[op.ID] = true
		}
	default:
		for _, r := range inst.Uses(i) {
			for id := range h.hangs[r] {
				hangs[id] = true
			}
		}
		if i.Op >= api.OpJalr && i.Op <= api.OpBgeu {
			for id := range hangs {
				h.asked[id] = true
			}
			hangs = nil
		}
		v, _ := alu.Value(i, h.pc, a, b)
		if i.Op < api.OpBeq || i.Op > api.OpBgeu || alu.Taken(i, a, b) {
			pc = alu.Target(i, h.pc, a)
		}
		if rd != 0 {
			h.x[rd] = v
		}
	}
	if rd != 0 {
		h.hangs[rd] = hangs
	}
	h.pc = pc
}

func (p *plain) opened(number int, i api.Inst, a, b uint64) *plainOp {
	h := p.harts[number]
	op := api.Op{ID: len(p.ops), Pair: -1, Addrs: rising(h.hangs[i.Rs1]), Datas: rising(h.hangs[i.Rs2]), Ctrls: rising(h.asked), Aq: i.Aq, Rl: i.Rl}
	if i.Op == api.OpFence {
		op.Fence, op.Pred, op.Succ = true, i.Imm/16%4, i.Imm%4
	} else {
		op.Load, op.Store, op.Addr, op.Size = inst.Loads(i.Op), inst.Stores(i.Op), alu.Address(i, a), inst.Size(i.Op)
	}
	if !op.Load {
		op.Stored = alu.Stored(i.Op, 0, b)
	}
	if i.Op == api.OpScw || i.Op == api.OpScd {
		for _, o := range p.ops {
			if o.hart == number && (o.i.Op == api.OpLrw || o.i.Op == api.OpLrd) {
				op.Pair = o.ID
			}
			if o.hart == number && (o.i.Op == api.OpScw || o.i.Op == api.OpScd) {
				op.Pair = -1
			}
		}
	}
	o := &plainOp{Op: op, hart: number, i: i, b: b, open: true}
	p.ops = append(p.ops, o)
	return o
}

func rising(set map[int]bool) []int {
	var l []int
	for id := range set {
		l = append(l, id)
	}
	slices.Sort(l)
	return l
}

func (p *plain) perform(l []*plainOp, n int, fail bool) {
	o := l[n]
	h := p.harts[o.hart]
	rd := inst.Sets(o.i)
	got := uint64(0)
	o.open = false
	if !o.Load && inst.Atomic(o.i.Op) {
		stores := !fail && h.hold != -1 && h.hold == o.Pair && p.ops[h.hold].Addr == o.Addr && p.ops[h.hold].Size == o.Size
		h.hold = -1
		if !stores {
			o.never, got = true, 1
		}
	}
	if o.Load {
		for k := range o.Size {
			x := o.Addr + uint64(k)
			v, _ := p.bytes.Load(x, 1)
			id, ok := p.wrote[x]
			if !ok {
				id = -1
			}
			for _, s := range l[:n] {
				if s.Store && !inst.Atomic(s.i.Op) && !o.Store && s.Addr <= x && x < s.Addr+uint64(s.Size) {
					id, v = s.ID, s.Stored>>(8*(x-s.Addr))&0xff
				}
			}
			o.From = append(o.From, id)
			o.Value |= v << (8 * k)
		}
		got = alu.Loaded(o.i.Op, o.Value)
		if o.Store {
			o.Stored = alu.Stored(o.i.Op, o.Value, o.b)
		} else if inst.Atomic(o.i.Op) {
			h.hold = o.ID
		}
	}
	if rd != 0 {
		h.x[rd] = got
	}
	if o.never {
		return
	}
	p.gmo = append(p.gmo, o.ID)
	for k := range o.Size {
		if x := o.Addr + uint64(k); o.Store {
			p.bytes.Store(x, 1, o.Stored>>(8*k))
			p.wrote[x] = o.ID
		}
	}
	for k, other := range p.harts {
		if o.Store && k != o.hart && other.hold != -1 && order.Overlap(p.ops[other.hold].Op, o.Op) {
			other.hold = -1
		}
	}
}

// all tells what all tells of a machine.
func (p *plain) all() string {
	s := ""
	say := func(x ...any) { s += fmt.Sprintln(x...) }
	var choices []machine.Choice
	offer := func(c machine.Choice) {
		if p.refused(c) == api.OK {
			choices = append(choices, c)
		}
	}
	lists := make([][]api.Op, len(p.harts))
	for k, h := range p.harts {
		n := len(p.open(k))
		say(h.pc, n, h.issued, int(h.stopped))
		for r, v := range h.x {
			if p.missing(k, r) {
				say(0, false)
			} else {
				say(v, true)
			}
		}
		offer(issue(k))
		for at := range n {
			offer(perform(k, at))
			offer(fail(k, at))
		}
		for _, o := range p.ops {
			if o.hart == k && !o.never {
				lists[k] = append(lists[k], o.Op)
			}
		}
	}
	last := api.Op{}
	if n := len(p.gmo); n > 0 {
		last = p.ops[p.gmo[n-1]].Op
		last.From, last.Addrs, last.Datas, last.Ctrls = nil, nil, nil, nil
	}
	b, e := p.bytes.Bytes(0, room)
	say(fmt.Sprintf("%+v %+v", lists, last), p.gmo, len(p.gmo), p.events, choices, b, e)
	return s
}

// P9.1 to P9.4: any choices, of code of any shape, held against a machine as the document tells it.
func TestAsTheDocumentTellsIt(t *testing.T) {
	r := row(43)
	done := 0
	for range 150 {
		harts := 1 + r.next(3)
		b := r.memory(t, harts, (*row).any)
		m, p := started(t, b, harts), plainly(b, harts)
		for range 150 {
			c := machine.Choice{Hart: r.next(harts), Kind: r.next(3), N: r.next(5)}
			if r.next(20) == 0 {
				c = machine.Choice{Hart: r.next(harts+2) - 1, Kind: r.next(5) - 1, N: r.next(20) - 1}
			}
			if l := m.Choices(); len(l) > 0 && r.next(3) == 0 {
				c = l[r.next(len(l))]
			}
			e, want := m.Choose(c), p.choose(c)
			if e != want {
				t.Fatalf("%+v: error %d, not %d", c, int(e), int(want))
			}
			if e == api.OK {
				done++
			}
			if r.next(8) > 0 && e == api.OK {
				continue
			}
			if got, want := all(m), p.all(); got != want {
				t.Fatalf("behind %+v:\n%s\nnot\n%s", c, got, want)
			}
		}
	}
	if done < 6000 {
		t.Errorf("%d choices were done", done)
	}
}
