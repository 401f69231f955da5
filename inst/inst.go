// Package inst has instructions as words. See shared/doc/02-inst.md.
package inst

import (
	"postbag/api"
	"postbag/bits"
)

// Good tells whether an instruction may be.
func Good(i api.Inst) bool {
	form := headOf(i.Op).form
	return form != noForm && i == only(i, form) &&
		register(i.Rd) && register(i.Rs1) && register(i.Rs2) && immMay(form, i.Imm)
}

// Encode tells an instruction's word.
func Encode(i api.Inst) (uint32, api.Errno) {
	if !Good(i) {
		return 0, api.ErrInst
	}
	h := headOf(i.Op)
	return uint32(h.word() | fieldsWord(i) | immWord(h.form, i.Imm)), api.OK
}

// Decode tells the instruction of a word.
func Decode(w uint32) (api.Inst, api.Errno) {
	word := uint64(w)
	opcode := bits.Field(word, 0, 7)
	for op := 1; op < len(codes); op++ {
		h := headOf(op)
		if h.opcode != opcode || h != headIn(h.form, word) {
			continue
		}
		i := instIn(op, h.form, word)
		// The word may have bits that the form does not name: they are missing in what is encoded.
		if again, e := Encode(i); e == api.OK && again == w {
			return i, api.OK
		}
	}
	return api.Inst{}, api.ErrIllegal
}

// Loads tells whether an operation loads.
func Loads(op int) bool {
	if Atomic(op) {
		return op != api.OpScw && op != api.OpScd
	}
	return op >= api.OpLb && op <= api.OpLwu
}

// Stores tells whether an operation stores.
func Stores(op int) bool {
	if Atomic(op) {
		return op != api.OpLrw && op != api.OpLrd
	}
	return op >= api.OpSb && op <= api.OpSd
}

// Atomic tells whether an operation is atomic.
func Atomic(op int) bool {
	return op >= api.OpLrw && op <= api.OpAmomaxud
}

// Size tells how many bytes an operation loads or stores.
func Size(op int) int {
	switch op {
	case api.OpLb, api.OpLbu, api.OpSb:
		return 1
	case api.OpLh, api.OpLhu, api.OpSh:
		return 2
	case api.OpLw, api.OpLwu, api.OpSw:
		return 4
	case api.OpLd, api.OpSd:
		return 8
	}
	if !Atomic(op) {
		return 0
	}
	if op < api.OpLrd {
		return 4
	}
	return 8
}

// Uses tells the registers that an instruction reads.
func Uses(i api.Inst) []int {
	if !Good(i) {
		return nil
	}
	var l []int
	// A register that the form does not have is 0 here, and falls away as register 0 does.
	for _, r := range [2]int{i.Rs1, i.Rs2} {
		if r != 0 {
			l = append(l, r)
		}
	}
	return l
}

// Sets tells the register that an instruction writes.
func Sets(i api.Inst) int {
	if !Good(i) {
		return 0
	}
	return i.Rd
}
