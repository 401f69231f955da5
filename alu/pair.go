package alu

import "postbag/bits"

// pair is the two numbers that an operation reckons with, and how many bits of them count.
type pair struct {
	a, b  uint64
	width int
}

// signedWords tells the pair of the lowest 32 bits, signed.
func (p pair) signedWords() pair {
	return pair{bits.Sign(p.a, 32), bits.Sign(p.b, 32), 32}
}

// words tells the pair of the lowest 32 bits, without a sign.
func (p pair) words() pair {
	return pair{bits.Field(p.a, 0, 32), bits.Field(p.b, 0, 32), 32}
}

// less tells whether a is less than b, signed.
func (p pair) less() bool {
	return int64(p.a) < int64(p.b)
}

// below tells whether a is less than b, without a sign.
func (p pair) below() bool {
	return p.a < p.b
}

// far tells how far a shift goes: no farther than to a's highest bit.
func (p pair) far() uint64 {
	return p.b % uint64(p.width)
}

func (p pair) sum() uint64        { return p.a + p.b }
func (p pair) difference() uint64 { return p.a - p.b }
func (p pair) xor() uint64        { return p.a ^ p.b }
func (p pair) or() uint64         { return p.a | p.b }
func (p pair) and() uint64        { return p.a & p.b }

func (p pair) lessBit() uint64  { return bit(p.less()) }
func (p pair) belowBit() uint64 { return bit(p.below()) }

func (p pair) product() uint64    { return p.a * p.b }
func (p pair) highSigned() uint64 { return bits.High(p.a, p.b, true, true) }
func (p pair) highMixed() uint64  { return bits.High(p.a, p.b, true, false) }
func (p pair) high() uint64       { return bits.High(p.a, p.b, false, false) }
func (p pair) quoSigned() uint64  { return bits.Quo(p.a, p.b, true) }
func (p pair) quo() uint64        { return bits.Quo(p.a, p.b, false) }
func (p pair) remSigned() uint64  { return bits.Rem(p.a, p.b, true) }
func (p pair) rem() uint64        { return bits.Rem(p.a, p.b, false) }

// least tells the lesser number, signed.
func (p pair) least() uint64 {
	if p.less() {
		return p.a
	}
	return p.b
}

// greatest tells the greater number, signed.
func (p pair) greatest() uint64 {
	if p.less() {
		return p.b
	}
	return p.a
}

// lowest tells the lesser number, without a sign.
func (p pair) lowest() uint64 { return min(p.a, p.b) }

// highest tells the greater number, without a sign.
func (p pair) highest() uint64 { return max(p.a, p.b) }

func bit(b bool) uint64 {
	if b {
		return 1
	}
	return 0
}
