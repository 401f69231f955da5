package alu

import "postbag/api"

// work tells what an operation does with its two numbers, and from how many
// bits on what comes has its sign repeated; nil, if it does nothing with them.
func work(op int, p pair) (func() uint64, int) {
	if does, width := base(op, p); does != nil {
		return does, width
	}
	return product(op, p)
}

// base is work, of the operations that neither multiply nor divide.
func base(op int, p pair) (func() uint64, int) {
	switch op {
	case api.OpAddw, api.OpAddiw:
		p = p.signedWords()
		fallthrough
	case api.OpAdd, api.OpAddi:
		return p.sum, p.width
	case api.OpSubw:
		p = p.signedWords()
		fallthrough
	case api.OpSub:
		return p.difference, p.width
	case api.OpSllw, api.OpSlliw:
		p = p.words()
		fallthrough
	case api.OpSll, api.OpSlli:
		return func() uint64 { return p.a << p.far() }, p.width
	case api.OpSrlw, api.OpSrliw:
		p = p.words()
		fallthrough
	case api.OpSrl, api.OpSrli:
		return func() uint64 { return p.a >> p.far() }, p.width
	case api.OpSraw, api.OpSraiw:
		p = p.signedWords()
		fallthrough
	case api.OpSra, api.OpSrai:
		return func() uint64 { return uint64(int64(p.a) >> p.far()) }, p.width
	case api.OpSlt, api.OpSlti:
		return p.lessBit, p.width
	case api.OpSltu, api.OpSltiu:
		return p.belowBit, p.width
	case api.OpXor, api.OpXori:
		return p.xor, p.width
	case api.OpOr, api.OpOri:
		return p.or, p.width
	case api.OpAnd, api.OpAndi:
		return p.and, p.width
	}
	return nil, 0
}

// product is work, of the operations that multiply or divide.
func product(op int, p pair) (func() uint64, int) {
	switch op {
	case api.OpMulw:
		p = p.signedWords()
		fallthrough
	case api.OpMul:
		return p.product, p.width
	case api.OpMulh:
		return p.highSigned, p.width
	case api.OpMulhsu:
		return p.highMixed, p.width
	case api.OpMulhu:
		return p.high, p.width
	case api.OpDivw:
		p = p.signedWords()
		fallthrough
	case api.OpDiv:
		return p.quoSigned, p.width
	case api.OpDivuw:
		p = p.words()
		fallthrough
	case api.OpDivu:
		return p.quo, p.width
	case api.OpRemw:
		p = p.signedWords()
		fallthrough
	case api.OpRem:
		return p.remSigned, p.width
	case api.OpRemuw:
		p = p.words()
		fallthrough
	case api.OpRemu:
		return p.rem, p.width
	}
	return nil, 0
}

// change tells what an atomic operation does with what stands there and what
// comes; nil, if what comes is stored as it is. Of what it tells the lowest bits count.
func change(op int, p pair) func() uint64 {
	switch op {
	case api.OpAmoaddw, api.OpAmoaddd:
		return p.sum
	case api.OpAmoxorw, api.OpAmoxord:
		return p.xor
	case api.OpAmoandw, api.OpAmoandd:
		return p.and
	case api.OpAmoorw, api.OpAmoord:
		return p.or
	case api.OpAmominw:
		p = p.signedWords()
		fallthrough
	case api.OpAmomind:
		return p.least
	case api.OpAmomaxw:
		p = p.signedWords()
		fallthrough
	case api.OpAmomaxd:
		return p.greatest
	case api.OpAmominuw:
		p = p.words()
		fallthrough
	case api.OpAmominud:
		return p.lowest
	case api.OpAmomaxuw:
		p = p.words()
		fallthrough
	case api.OpAmomaxud:
		return p.highest
	}
	return nil
}
