package code

import (
	"iter"

	"postbag/api"
	"postbag/bits"
)

// constant yields, in order, the instructions that give a register a number.
func constant(rd int, v uint64) iter.Seq[api.Inst] {
	return func(yield func(api.Inst) bool) {
		last := api.OpAddi
		switch {
		case bits.Fits(int(v), 12):
			yield(api.Inst{Op: last, Rd: rd, Imm: int(v)})
			return
		case bits.Fits(int(v), 32):
			if !yield(lui(rd, v)) {
				return
			}
			last = api.OpAddiw // a lui of 2^31 gives -2^31, to which is added in 32 bits
		default:
			for i := range constant(rd, uint64(int64(v-low(v))>>12)) {
				if !yield(i) {
					return
				}
			}
			if !yield(api.Inst{Op: api.OpSlli, Rd: rd, Rs1: rd, Imm: 12}) {
				return
			}
		}
		if low(v) != 0 {
			yield(more(last, rd, v))
		}
	}
}

// low tells what is left of a number, signed in 12 bits, when a lui has given the rest.
func low(v uint64) uint64 {
	return bits.Sign(v, 12)
}

// lui tells the instruction that gives a register a number but for what is low.
func lui(rd int, v uint64) api.Inst {
	return api.Inst{Op: api.OpLui, Rd: rd, Imm: int(bits.Sign(v-low(v), 32))}
}

// more tells the instruction that adds what is low.
func more(op, rd int, v uint64) api.Inst {
	return api.Inst{Op: op, Rd: rd, Rs1: rd, Imm: int(low(v))}
}
