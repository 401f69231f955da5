package inst

import (
	"postbag/api"
	"postbag/bits"
)

// piece is n bits of a number, from bit from on, that stand in a word from bit to on.
// An empty one is no bits, and changes nothing.
type piece struct{ from, n, to int }

// put tells a word with the piece of a number in it.
func (p piece) put(w, v uint64) uint64 {
	return bits.Place(w, p.to, p.n, bits.Field(v, p.from, p.n))
}

// get tells a number with the piece of a word in it.
func (p piece) get(v, w uint64) uint64 {
	return bits.Place(v, p.from, p.n, bits.Field(w, p.to, p.n))
}

// fieldSet tells which fields a form has; order stands for Aq and Rl.
type fieldSet struct{ rd, rs1, rs2, imm, order bool }

// fieldsOf tells what a form has.
func fieldsOf(form uint32) fieldSet {
	var f fieldSet
	switch form {
	case formI, formH, formW:
		f.rs1 = true
		fallthrough
	case formU, formJ:
		f.rd = true
		fallthrough
	case formF:
		f.imm = true
	case formS, formB:
		f.rs1, f.rs2, f.imm = true, true, true
	case formA:
		f.rs2 = true
		fallthrough
	case formL:
		f.rd, f.rs1, f.order = true, true, true
	case formR:
		f.rd, f.rs1, f.rs2 = true, true, true
	}
	return f
}

// only tells an instruction with 0 in all that a form does not have.
func only(i api.Inst, form uint32) api.Inst {
	has := fieldsOf(form)
	o := api.Inst{Op: i.Op}
	if has.rd {
		o.Rd = i.Rd
	}
	if has.rs1 {
		o.Rs1 = i.Rs1
	}
	if has.rs2 {
		o.Rs2 = i.Rs2
	}
	if has.imm {
		o.Imm = i.Imm
	}
	if has.order {
		o.Aq, o.Rl = i.Aq, i.Rl
	}
	return o
}

// register tells whether a number is a register's.
func register(r int) bool {
	return r >= 0 && r <= 31
}

// fieldsWord tells a word with the registers, Aq and Rl of an instruction that may be.
// What its form does not have is 0, and leaves its place to what else stands there.
func fieldsWord(i api.Inst) uint64 {
	w := bits.Place(0, 7, 5, uint64(i.Rd))
	w = bits.Place(w, 15, 5, uint64(i.Rs1))
	w = bits.Place(w, 20, 5, uint64(i.Rs2))
	w = bits.Place(w, 25, 1, bit(i.Rl))
	return bits.Place(w, 26, 1, bit(i.Aq))
}

func bit(b bool) uint64 {
	if b {
		return 1
	}
	return 0
}

// instIn tells the instruction of an operation whose fields a word has.
func instIn(op int, form uint32, w uint64) api.Inst {
	all := api.Inst{
		Op:  op,
		Rd:  int(bits.Field(w, 7, 5)),
		Rs1: int(bits.Field(w, 15, 5)),
		Rs2: int(bits.Field(w, 20, 5)),
		Imm: immIn(form, w),
		Aq:  bits.Field(w, 26, 1) == 1,
		Rl:  bits.Field(w, 25, 1) == 1,
	}
	return only(all, form)
}

// immAt tells where words of a form have Imm.
func immAt(form uint32) [4]piece {
	switch form {
	case formU:
		return [4]piece{{12, 20, 12}}
	case formJ:
		return [4]piece{{20, 1, 31}, {1, 10, 21}, {11, 1, 20}, {12, 8, 12}}
	case formI:
		return [4]piece{{0, 12, 20}}
	case formB:
		return [4]piece{{12, 1, 31}, {5, 6, 25}, {1, 4, 8}, {11, 1, 7}}
	case formS:
		return [4]piece{{5, 7, 25}, {0, 5, 7}}
	case formH:
		return [4]piece{{0, 6, 20}}
	case formW:
		return [4]piece{{0, 5, 20}}
	case formF:
		return [4]piece{{0, 8, 20}}
	}
	return [4]piece{}
}

// immSigned tells in how many bits Imm of a form is signed; 0, if it has no sign.
func immSigned(form uint32) int {
	switch form {
	case formU:
		return 32
	case formJ:
		return 21
	case formB:
		return 13
	case formI, formS:
		return 12
	}
	return 0
}

// immMay tells whether a number may be the Imm of a form.
func immMay(form uint32, v int) bool {
	switch form {
	case formU:
		return v%4096 == 0 && bits.Fits(v, immSigned(form))
	case formJ, formB:
		return v%2 == 0 && bits.Fits(v, immSigned(form))
	case formI, formS:
		return bits.Fits(v, immSigned(form))
	case formH:
		return v >= 0 && v <= 63
	case formW:
		return v >= 0 && v <= 31
	case formF:
		return v >= 0 && v <= 255
	}
	return v == 0
}

// immWord tells a word with Imm of a form, and 0 in all else.
func immWord(form uint32, v int) uint64 {
	w := uint64(0)
	for _, p := range immAt(form) {
		w = p.put(w, uint64(v))
	}
	return w
}

// immIn tells the Imm that a word of a form has.
func immIn(form uint32, w uint64) int {
	v := uint64(0)
	for _, p := range immAt(form) {
		v = p.get(v, w)
	}
	return int(bits.Sign(v, immSigned(form)))
}
