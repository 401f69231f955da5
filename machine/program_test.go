package machine_test

import (
	"slices"
	"testing"

	"postbag/api"
	"postbag/inst"
	"postbag/machine"
	"postbag/memory"
)

// Registers of the programs below: near and far have the addresses of two
// words; so have nearby and farby, which may hang on what was loaded, by zero.
const (
	zero   = 14
	near   = 20
	far    = 21
	nearby = 22
	farby  = 23
)

// maker tells an instruction of a hart that has some left.
type maker func(r *row, left int) api.Inst

// program tells a machine of one to three harts with code of any shape.
func (r *row) program(t testing.TB) *machine.Machine {
	t.Helper()
	harts := 1 + r.next(3)
	return started(t, r.memory(t, harts, (*row).any), harts)
}

// memory tells a memory with the code of so many harts, the words at near and far being 0.
func (r *row) memory(t testing.TB, harts int, some maker) *memory.Memory {
	t.Helper()
	m := memory.New(room)
	for h := range harts {
		var l []api.Inst
		for k, at := range []int{near, far, nearby, farby} {
			l = append(l, api.Inst{Op: api.OpAddi, Rd: at, Imm: data + 8*(k%2)})
		}
		for _, rd := range []int{5, 6, 7} {
			l = append(l, api.Inst{Op: api.OpAddi, Rd: rd, Imm: r.next(4096) - 2048})
		}
		n := 4 + r.next(36)
		for k := range n {
			l = append(l, some(r, n-k))
		}
		l = append(l, api.Inst{Op: api.OpEbreak})
		for k, i := range l {
			w, e := inst.Encode(i)
			if e != api.OK {
				t.Fatalf("%+v may not be", i)
			}
			m.Store(uint64(between*h+4*k), 4, uint64(w))
		}
	}
	return m
}

// any tells any instruction, some of which can't be done, or go back.
func (r *row) any(left int) api.Inst {
	switch r.next(40) {
	case 0:
		return api.Inst{Op: api.OpEcall}
	case 1:
		return api.Inst{Op: api.OpAddi, Rd: 17, Rs1: r.source(), Imm: r.next(2)}
	case 2:
		return api.Inst{Op: api.OpLd, Rd: r.target(), Rs1: near, Imm: r.next(16)}
	case 3:
		return api.Inst{Op: api.OpSw, Rs1: r.source(), Rs2: r.source(), Imm: 4 * r.next(300)}
	case 4:
		return api.Inst{Op: api.OpJalr, Rd: r.target(), Rs1: r.source(), Imm: 4 * r.next(20)}
	case 5:
		return api.Inst{Op: api.OpBeq, Rs1: r.source(), Rs2: r.source(), Imm: -4 * r.next(4)}
	}
	return r.quiet(left)
}

// lone tells an instruction that can be done, goes on ahead, and is no sc.
func (r *row) lone(left int) api.Inst {
	for {
		if i := r.quiet(left); i.Op != api.OpScw && i.Op != api.OpScd {
			return i
		}
	}
}

// quiet tells an instruction that can be done, and goes on ahead among those that are left.
func (r *row) quiet(left int) api.Inst {
	base := one(r, near, far, nearby, farby)
	switch r.next(15) {
	case 0, 1, 2:
		op := one(r, api.OpLb, api.OpLh, api.OpLw, api.OpLd, api.OpLbu, api.OpLhu, api.OpLwu, api.OpLd)
		return api.Inst{Op: op, Rd: r.target(), Rs1: base, Imm: r.within(op)}
	case 3, 4:
		op := one(r, api.OpSb, api.OpSh, api.OpSw, api.OpSd, api.OpSd)
		return api.Inst{Op: op, Rs1: base, Rs2: r.source(), Imm: r.within(op)}
	case 5, 6, 7:
		return r.atomic(base)
	case 8:
		return api.Inst{Op: api.OpFence, Imm: r.next(256)}
	case 9:
		return api.Inst{Op: api.OpBeq + r.next(6), Rs1: r.source(), Rs2: r.source(), Imm: 4 * (1 + r.next(min(left, 3)))}
	case 10:
		return api.Inst{Op: api.OpJal, Rd: r.target(), Imm: 4 * (1 + r.next(min(left, 2)))}
	case 11:
		return api.Inst{Op: api.OpMul, Rd: zero, Rs1: r.source()}
	case 12:
		k := r.next(2)
		return api.Inst{Op: api.OpAdd, Rd: nearby + k, Rs1: near + k, Rs2: zero}
	case 13:
		return api.Inst{Op: api.OpAddi, Rd: r.target(), Rs1: r.source(), Imm: r.next(9) - 4}
	}
	op := one(r, api.OpAdd, api.OpSub, api.OpXor, api.OpAnd, api.OpMulhu, api.OpAddw)
	return api.Inst{Op: op, Rd: r.target(), Rs1: r.source(), Rs2: r.source()}
}

// atomic tells an atomic instruction, most of them an lr or an sc, and most of these of one word.
func (r *row) atomic(base int) api.Inst {
	op := one(r, api.OpLrw, api.OpScw)
	if r.next(3) == 0 {
		op = api.OpAmoswapw + r.next(api.OpAmomaxuw-api.OpAmoswapw+1)
	} else if r.next(3) > 0 {
		base = near
	}
	if r.next(5) > 0 {
		op += api.OpLrd - api.OpLrw
	}
	i := api.Inst{Op: op, Rd: r.target(), Rs1: base, Rs2: r.source(), Aq: r.next(4) == 0, Rl: r.next(4) == 0}
	if op == api.OpLrw || op == api.OpLrd {
		i.Rs2 = 0
	}
	return i
}

// source tells a register that is read.
func (r *row) source() int {
	return one(r, 0, 5, 6, 7, 8, 9, 10, 11, near)
}

// target tells a register that is set.
func (r *row) target() int {
	return one(r, 0, 5, 6, 7, 8, 9, 11)
}

// within tells how far behind a word's first byte an operation may be.
func (r *row) within(op int) int {
	size := inst.Size(op)
	return size * r.next(8/size)
}

// play does at most so many choices by a script of any numbers.
func (r *row) play(m *machine.Machine, most int) {
	for range most {
		if _, e := m.Pick(r.next(1 << 20)); e != api.OK {
			return
		}
	}
}

// settle does choices by a script of any numbers, and then performs all that is open.
func (r *row) settle(t testing.TB, m *machine.Machine, most int) {
	t.Helper()
	r.play(m, most)
	for h := range m.Harts() {
		for m.Open(h) > 0 {
			n := r.next(m.Open(h))
			if e := m.Choose(perform(h, n)); e == api.ErrWait || e == api.ErrChoice {
				n = slices.IndexFunc(m.Choices(), func(c machine.Choice) bool { return c.Hart == h && c.Kind == machine.Perform })
				do(t, m, m.Choices()[n])
			}
		}
	}
}
