package bits_test

import (
	"math"
	"math/big"
	"testing"

	"postbag/bits"
)

const ones = ^uint64(0)

// edges: lows, counts and bit numbers at and beyond all that the document names.
func edges() []int {
	l := []int{math.MinInt, math.MinInt + 1, -1 << 32, -65, -64, -63, -2, -1}
	for n := range 67 {
		l = append(l, n)
	}
	return append(l, 127, 128, 129, 256, 1<<32, 1<<32+1, math.MaxInt-63, math.MaxInt-1, math.MaxInt)
}

// numbers: those of 64 bits at which something turns, and some of no shape.
func numbers() []uint64 {
	l := []uint64{0, 1, 2, 3, 5, 7, 0xf0, 0xff, 1<<31 - 1, 1 << 31, 1<<31 + 1, 1<<32 - 1, 1 << 32, 1<<32 + 1, 1<<62 - 1, 1 << 62, 1<<63 - 1, 1 << 63, 1<<63 + 1,
		ones, ones - 1, ones - 6, ones - 1<<32 + 1, 1<<33 - 1, 0x5555555555555555, 0xaaaaaaaaaaaaaaaa, 0x00000000ffffffff, 0xffffffff00000001}
	return append(l, mixed(24)...)
}

// mixed: numbers of a fixed rule, without a shape of their own.
func mixed(n int) []uint64 {
	var l []uint64
	x := uint64(0x9e3779b97f4a7c15)
	for range n {
		x ^= x << 13
		x ^= x >> 7
		x ^= x << 17
		l = append(l, x)
	}
	return l
}

func has(x uint64, bit int) bool { return x>>bit&1 == 1 }

// whole: the number that x stands for.
func whole(x uint64, signed bool) *big.Int {
	v := new(big.Int).SetUint64(x)
	if signed && x >= 1<<63 {
		v.Sub(v, new(big.Int).Lsh(big.NewInt(1), 64))
	}
	return v
}

// modulo: v modulo 2^64.
func modulo(v *big.Int) uint64 {
	return new(big.Int).And(v, new(big.Int).SetUint64(ones)).Uint64()
}

// P1.1: a field is the number of its bits, and has none beyond 63.
func TestFieldIsTheNumberOfItsBits(t *testing.T) {
	for _, x := range numbers() {
		for _, low := range edges() {
			for _, n := range edges() {
				want := uint64(0)
				if low >= 0 && low <= 63 && n >= 1 {
					v := new(big.Int).Rsh(new(big.Int).SetUint64(x), uint(low))
					want = v.Mod(v, new(big.Int).Lsh(big.NewInt(1), uint(min(n, 64)))).Uint64()
				}
				if got := bits.Field(x, low, n); got != want {
					t.Fatalf("Field(%x, %d, %d) = %x, not %x", x, low, n, got, want)
				}
			}
		}
	}
}

// P1.1: at the edges that the document names.
func TestFieldAtItsEdges(t *testing.T) {
	for _, c := range []struct {
		x      uint64
		low, n int
		want   uint64
	}{
		{0xf0, 4, 4, 0xf},
		{ones, 0, 64, ones},
		{ones, 0, 65, ones},
		{ones, 0, math.MaxInt, ones},
		{ones, 63, 1, 1},
		{ones, 63, math.MaxInt, 1},
		{1 << 63, 63, 1, 1},
		{ones >> 1, 63, 1, 0},
		{ones, 1, 63, ones >> 1},
		{ones, 60, 9, 15},
		{ones, 64, 1, 0},
		{ones, math.MaxInt, math.MaxInt, 0},
		{ones, -1, 64, 0},
		{ones, math.MinInt, 64, 0},
		{ones, 0, 0, 0},
		{ones, 0, -1, 0},
		{ones, 5, math.MinInt, 0},
	} {
		if got := bits.Field(c.x, c.low, c.n); got != c.want {
			t.Errorf("Field(%x, %d, %d) = %x, not %x", c.x, c.low, c.n, got, c.want)
		}
	}
}

// P1.1, P1.6: in what was placed these bits are v's, and all others x's.
func TestPlaceChangesItsBitsAlone(t *testing.T) {
	values := []uint64{0, 1, 5, ones, 0x5555555555555555, 0x9e3779b97f4a7c15}
	for _, x := range values {
		for _, v := range values {
			for _, low := range edges() {
				for _, n := range edges() {
					got := bits.Place(x, low, n, v)
					for b := range 64 {
						want := has(x, b)
						if low >= 0 && low <= b && n >= 1 && b-low < n {
							want = has(v, b-low)
						}
						if has(got, b) != want {
							t.Fatalf("Place(%x, %d, %d, %x) = %x: bit %d", x, low, n, v, got, b)
						}
					}
				}
			}
		}
	}
}

// P1.1: at the edges that the document names.
func TestPlaceAtItsEdges(t *testing.T) {
	for _, c := range []struct {
		x      uint64
		low, n int
		v      uint64
		want   uint64
	}{
		{0xff, 4, 2, 0, 0xcf},
		{0, 62, 8, 7, 3 << 62},
		{0, 0, 64, ones, ones},
		{ones, 0, math.MaxInt, 5, 5},
		{0, 63, 1, 1, 1 << 63},
		{0, 63, 2, 3, 1 << 63},
		{0, 4, 4, 0x123, 0x30},
		{9, 64, 1, ones, 9},
		{9, -1, 8, ones, 9},
		{9, math.MinInt, 8, ones, 9},
		{9, 0, 0, ones, 9},
		{9, 0, -1, ones, 9},
		{9, 3, math.MinInt, ones, 9},
	} {
		if got := bits.Place(c.x, c.low, c.n, c.v); got != c.want {
			t.Errorf("Place(%x, %d, %d, %x) = %x, not %x", c.x, c.low, c.n, c.v, got, c.want)
		}
	}
}

// P1.6: what Place put Field tells.
func TestFieldTellsWhatPlacePut(t *testing.T) {
	for _, x := range numbers() {
		for _, low := range edges() {
			for _, n := range edges() {
				v := x*0x9e3779b97f4a7c15 + 1
				put := bits.Place(x, low, n, v)
				want := uint64(0)
				if low >= 0 && low <= 63 {
					want = bits.Field(v, 0, min(n, 64-low))
				}
				if got := bits.Field(put, low, n); got != want {
					t.Fatalf("Field of Place(%x, %d, %d, %x) = %x, not %x", x, low, n, v, got, want)
				}
				if bits.Place(put, low, n, bits.Field(x, low, n)) != x {
					t.Fatalf("Place(%x, %d, %d, %x) changed another bit", x, low, n, v)
				}
			}
		}
	}
}

// P1.2: the highest of n bits stands in all bits above them.
func TestSignRepeatsTheHighestBit(t *testing.T) {
	for _, x := range numbers() {
		for _, n := range edges() {
			got := bits.Sign(x, n)
			for b := range 64 {
				want := has(x, b)
				if n >= 1 && n <= 63 && b >= n {
					want = has(x, n-1)
				}
				if has(got, b) != want {
					t.Fatalf("Sign(%x, %d) = %x: bit %d", x, n, got, b)
				}
			}
		}
	}
}

// P1.2: at the edges that the document names.
func TestSignAtItsEdges(t *testing.T) {
	for _, c := range []struct {
		x    uint64
		n    int
		want uint64
	}{
		{0x80, 8, 0xffffffffffffff80},
		{0x17f, 8, 0x7f},
		{1, 1, ones},
		{2, 1, 0},
		{1 << 62, 63, 3 << 62},
		{1 << 63, 63, 0},
		{1 << 63, 64, 1 << 63},
		{5, 64, 5},
		{5, 0, 5},
		{5, -1, 5},
		{5, math.MinInt, 5},
		{5, math.MaxInt, 5},
	} {
		if got := bits.Sign(c.x, c.n); got != c.want {
			t.Errorf("Sign(%x, %d) = %x, not %x", c.x, c.n, got, c.want)
		}
	}
}

// P1.2: the least and the greatest number of n bits, and one beyond each.
func TestFitsAtItsEdges(t *testing.T) {
	for n := 1; n <= 63; n++ {
		half := 1 << (n - 1)
		for _, c := range []struct {
			v    int
			want bool
		}{{-half - 1, false}, {-half, true}, {-1, true}, {0, true}, {half - 1, true}, {half, false}, {math.MinInt, false}, {math.MaxInt, false}} {
			if got := bits.Fits(c.v, n); got != c.want {
				t.Errorf("Fits(%d, %d) = %v", c.v, n, got)
			}
		}
	}
	for _, v := range []int{math.MinInt, -1, 0, 1, math.MaxInt} {
		for _, n := range []int{math.MinInt, -64, -1, 0} {
			if bits.Fits(v, n) {
				t.Errorf("Fits(%d, %d)", v, n)
			}
		}
		for _, n := range []int{64, 65, math.MaxInt} {
			if !bits.Fits(v, n) {
				t.Errorf("not Fits(%d, %d)", v, n)
			}
		}
	}
}

// P1.3: the higher half of the whole product, in all four ways to see the signs.
func TestHighIsTheHigherHalf(t *testing.T) {
	for _, a := range numbers() {
		for _, b := range numbers() {
			for k := range 4 {
				sa, sb := k&1 == 1, k&2 == 2
				p := new(big.Int).Mul(whole(a, sa), whole(b, sb))
				want := modulo(p.Rsh(p, 64))
				if got := bits.High(a, b, sa, sb); got != want {
					t.Fatalf("High(%x, %x, %v, %v) = %x, not %x", a, b, sa, sb, got, want)
				}
			}
		}
	}
}

// P1.3: at its edges.
func TestHighAtItsEdges(t *testing.T) {
	for _, c := range []struct {
		a, b   uint64
		sa, sb bool
		want   uint64
	}{
		{1 << 32, 1 << 32, false, false, 1},
		{1 << 32, 1 << 32, true, true, 1},
		{ones, ones, false, false, ones - 1},
		{ones, ones, true, true, 0},
		{ones, ones, true, false, ones},
		{ones, ones, false, true, ones},
		{1 << 63, 1 << 63, false, false, 1 << 62},
		{1 << 63, 1 << 63, true, true, 1 << 62},
		{1 << 63, 1 << 63, true, false, 3 << 62},
		{1 << 63, ones, true, true, 0},
		{0, ones, true, true, 0},
	} {
		if got := bits.High(c.a, c.b, c.sa, c.sb); got != c.want {
			t.Errorf("High(%x, %x, %v, %v) = %x, not %x", c.a, c.b, c.sa, c.sb, got, c.want)
		}
	}
}

// P1.4: whole numbers' quotient towards 0 and remainder.
func TestQuoAndRemAreThoseOfWholeNumbers(t *testing.T) {
	for _, a := range numbers() {
		for _, b := range numbers() {
			for _, signed := range []bool{false, true} {
				q, r := ones, a
				if b != 0 {
					bq, br := new(big.Int).QuoRem(whole(a, signed), whole(b, signed), new(big.Int))
					q, r = modulo(bq), modulo(br)
				}
				if got := bits.Quo(a, b, signed); got != q {
					t.Fatalf("Quo(%x, %x, %v) = %x, not %x", a, b, signed, got, q)
				}
				if got := bits.Rem(a, b, signed); got != r {
					t.Fatalf("Rem(%x, %x, %v) = %x, not %x", a, b, signed, got, r)
				}
			}
		}
	}
}

// P1.4: by 0, of -2^63 by -1, and of all four pairs of signs.
func TestQuoAndRemAtTheirEdges(t *testing.T) {
	seven, two := uint64(7), uint64(2)
	for _, c := range []struct {
		a, b   uint64
		signed bool
		q, r   uint64
	}{
		{7, 0, false, ones, 7},
		{7, 0, true, ones, 7},
		{0, 0, true, ones, 0},
		{1 << 63, 0, true, ones, 1 << 63},
		{ones, 0, false, ones, ones},
		{1 << 63, ones, true, 1 << 63, 0},
		{1 << 63, ones, false, 0, 1 << 63},
		{1 << 63, 1, true, 1 << 63, 0},
		{1 << 63, 1 << 63, true, 1, 0},
		{1<<63 - 1, ones, true, 1<<63 + 1, 0},
		{5, 1 << 63, true, 0, 5},
		{7, 2, true, 3, 1},
		{-seven, 2, true, ones - 2, ones},
		{7, -two, true, ones - 2, 1},
		{-seven, -two, true, 3, ones},
		{ones, 2, false, 1<<63 - 1, 1},
	} {
		if q := bits.Quo(c.a, c.b, c.signed); q != c.q {
			t.Errorf("Quo(%x, %x, %v) = %x, not %x", c.a, c.b, c.signed, q, c.q)
		}
		if r := bits.Rem(c.a, c.b, c.signed); r != c.r {
			t.Errorf("Rem(%x, %x, %v) = %x, not %x", c.a, c.b, c.signed, r, c.r)
		}
	}
}

// P1.5: a is Quo times b and Rem together; the remainder has a's sign.
func TestQuoAndRemMakeTheWhole(t *testing.T) {
	for _, a := range numbers() {
		for _, b := range numbers() {
			for _, signed := range []bool{false, true} {
				q, r := bits.Quo(a, b, signed), bits.Rem(a, b, signed)
				if q*b+r != a {
					t.Fatalf("%x, %x, %v: %x and %x", a, b, signed, q, r)
				}
				if signed && r != 0 && (r>>63) != (a>>63) {
					t.Fatalf("%x, %x: the remainder %x has another sign", a, b, r)
				}
			}
		}
	}
}
