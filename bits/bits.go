// Package bits has numbers of 64 bits, as parts and wholes. See shared/doc/01-bits.md.
package bits

// Field tells the number that x's bits low to low + n - 1 are; 0, where there are no such bits.
func Field(x uint64, low, n int) uint64 {
	f := uint64(0)
	for k := range width(low, n) {
		f |= x >> (low + k) & 1 << k
	}
	return f
}

// Place tells x with its bits low to low + n - 1 being v's lowest ones.
func Place(x uint64, low, n int, v uint64) uint64 {
	for k := range width(low, n) {
		at := low + k
		x = x&^(1<<at) | v>>k&1<<at
	}
	return x
}

// width tells how many of n bits from low on a number has. It is 0 where none
// are asked for, so that nobody shifts by a low that is out of range.
func width(low, n int) int {
	if low < 0 || low > 63 || n < 1 {
		return 0
	}
	return min(n, 64-low)
}

// Sign tells x with bit n - 1 repeated in all bits above it; x, if n is not from 1 to 63.
func Sign(x uint64, n int) uint64 {
	if n < 1 || n > 63 {
		return x
	}
	above := ^uint64(0) << n
	if x>>(n-1)&1 == 1 {
		return x | above
	}
	return x &^ above
}

// Fits tells whether v, signed, has room in n bits.
func Fits(v, n int) bool {
	if n < 1 {
		return false
	}
	if n > 63 {
		return true
	}
	half := 1 << (n - 1)
	return -half <= v && v < half
}

// High tells the higher 64 bits of the product of a (signed, if sa) and b (signed, if sb).
func High(a, b uint64, sa, sb bool) uint64 {
	h := highUnsigned(a, b)
	// A factor that stands for itself less 2^64 makes the higher half less by the other factor.
	if sa && negative(a) {
		h -= b
	}
	if sb && negative(b) {
		h -= a
	}
	return h
}

const lowHalf = 1<<32 - 1

// highUnsigned tells the higher 64 bits of the product of a and b, both without a sign.
func highUnsigned(a, b uint64) uint64 {
	p := products(a, b)
	middle := p[0]>>32 + p[1]&lowHalf + p[2]&lowHalf
	return p[3] + p[1]>>32 + p[2]>>32 + middle>>32
}

// products tells the products of the halves of a and b: low by low, low by high, high by low, high by high.
func products(a, b uint64) [4]uint64 {
	la, ha := a&lowHalf, a>>32
	lb, hb := b&lowHalf, b>>32
	return [4]uint64{la * lb, la * hb, ha * lb, ha * hb}
}

// negative tells whether x, signed, is below 0.
func negative(x uint64) bool {
	return x>>63 == 1
}

// magnitude tells how far x, signed, is from 0; of -2^63 that is 2^63, which has room without a sign.
func magnitude(x uint64) uint64 {
	if negative(x) {
		return -x
	}
	return x
}

// Quo tells the quotient of a by b, rounded towards 0; all bits set, if b is 0.
func Quo(a, b uint64, signed bool) uint64 {
	if b == 0 {
		return ^uint64(0)
	}
	if !signed {
		return a / b
	}
	q := magnitude(a) / magnitude(b)
	if negative(a) != negative(b) {
		return -q
	}
	return q
}

// Rem tells the remainder of a by b, which has a's sign; a, if b is 0.
func Rem(a, b uint64, signed bool) uint64 {
	return a - Quo(a, b, signed)*b
}
