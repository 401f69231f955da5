package alu_test

import (
	"math/big"

	"postbag/api"
)

// edges are numbers at which what is reckoned turns.
var edges = []uint64{
	0, 1, 2, 3, 5, 7, 31, 32, 33, 63, 64, 65, 1 << 16,
	1<<31 - 1, 1 << 31, 1<<31 + 1, 1<<32 - 2, 1<<32 - 1, 1 << 32, 1<<32 + 1, 1<<32 + 1<<31, 5<<32 + 7,
	1<<63 - 1, 1 << 63, 1<<63 + 1, 1<<63 + 1<<31, minus(1 << 31), minus(1<<31 + 1), minus(1<<31 - 1), minus(1 << 32),
	minus(1), minus(2), minus(3), minus(7), minus(8), minus(32), minus(63), 0x0123456789abcdef, 0xfedcba9876543210, 0x80000000ffffffff,
}

// minus tells the number that stands, signed, for -x.
func minus(x uint64) uint64 { return -x }

// law is what operations reckon, as whole numbers without a bound: from the
// lowest width bits of a and c, each of them signed or not.
type law struct {
	ops              []int
	width            uint
	signedA, signedC bool
	reckon           func(v, a, c *big.Int) *big.Int
}

// laws: those of Value's operations that reckon with two numbers.
var laws = []law{
	{[]int{api.OpAdd, api.OpAddi}, 64, true, true, (*big.Int).Add},
	{[]int{api.OpAddw, api.OpAddiw}, 32, true, true, (*big.Int).Add},
	{[]int{api.OpSub}, 64, true, true, (*big.Int).Sub},
	{[]int{api.OpSubw}, 32, true, true, (*big.Int).Sub},
	{[]int{api.OpSll, api.OpSlli}, 64, false, false, left(64)},
	{[]int{api.OpSllw, api.OpSlliw}, 32, false, false, left(32)},
	{[]int{api.OpSrl, api.OpSrli}, 64, false, false, right(64)},
	{[]int{api.OpSrlw, api.OpSrliw}, 32, false, false, right(32)},
	{[]int{api.OpSra, api.OpSrai}, 64, true, false, right(64)},
	{[]int{api.OpSraw, api.OpSraiw}, 32, true, false, right(32)},
	{[]int{api.OpSlt, api.OpSlti}, 64, true, true, less},
	{[]int{api.OpSltu, api.OpSltiu}, 64, false, false, less},
	{[]int{api.OpXor, api.OpXori}, 64, false, false, (*big.Int).Xor},
	{[]int{api.OpOr, api.OpOri}, 64, false, false, (*big.Int).Or},
	{[]int{api.OpAnd, api.OpAndi}, 64, false, false, (*big.Int).And},
	{[]int{api.OpMul}, 64, true, true, (*big.Int).Mul},
	{[]int{api.OpMulw}, 32, true, true, (*big.Int).Mul},
	{[]int{api.OpMulh}, 64, true, true, high},
	{[]int{api.OpMulhsu}, 64, true, false, high},
	{[]int{api.OpMulhu}, 64, false, false, high},
	{[]int{api.OpDiv}, 64, true, true, quotient},
	{[]int{api.OpDivw}, 32, true, true, quotient},
	{[]int{api.OpDivu}, 64, false, false, quotient},
	{[]int{api.OpDivuw}, 32, false, false, quotient},
	{[]int{api.OpRem}, 64, true, true, remainder},
	{[]int{api.OpRemw}, 32, true, true, remainder},
	{[]int{api.OpRemu}, 64, false, false, remainder},
	{[]int{api.OpRemuw}, 32, false, false, remainder},
}

// storeLaws: those of Stored's operations; a is what stands there, c what comes.
var storeLaws = []law{
	{[]int{api.OpSb}, 8, false, false, second},
	{[]int{api.OpSh}, 16, false, false, second},
	{[]int{api.OpSw, api.OpScw, api.OpAmoswapw}, 32, false, false, second},
	{[]int{api.OpSd, api.OpScd, api.OpAmoswapd}, 64, false, false, second},
	{[]int{api.OpAmoaddw}, 32, true, true, (*big.Int).Add},
	{[]int{api.OpAmoaddd}, 64, true, true, (*big.Int).Add},
	{[]int{api.OpAmoxorw}, 32, false, false, (*big.Int).Xor},
	{[]int{api.OpAmoxord}, 64, false, false, (*big.Int).Xor},
	{[]int{api.OpAmoandw}, 32, false, false, (*big.Int).And},
	{[]int{api.OpAmoandd}, 64, false, false, (*big.Int).And},
	{[]int{api.OpAmoorw}, 32, false, false, (*big.Int).Or},
	{[]int{api.OpAmoord}, 64, false, false, (*big.Int).Or},
	{[]int{api.OpAmominw}, 32, true, true, lesser},
	{[]int{api.OpAmomind}, 64, true, true, lesser},
	{[]int{api.OpAmomaxw}, 32, true, true, greater},
	{[]int{api.OpAmomaxd}, 64, true, true, greater},
	{[]int{api.OpAmominuw}, 32, false, false, lesser},
	{[]int{api.OpAmominud}, 64, false, false, lesser},
	{[]int{api.OpAmomaxuw}, 32, false, false, greater},
	{[]int{api.OpAmomaxud}, 64, false, false, greater},
}

// lowest tells what the law says of a and c, as the lowest width bits.
func (l law) lowest(a, c uint64) uint64 {
	v := l.reckon(new(big.Int), whole(a, l.width, l.signedA), whole(c, l.width, l.signedC))
	return v.And(v, mask(l.width)).Uint64()
}

// repeated tells what the law says of a and c, with the highest of these bits repeated above them.
func (l law) repeated(a, c uint64) uint64 {
	return word(whole(l.lowest(a, c), l.width, true))
}

// word tells the 64 bits that stand for a number, signed.
func word(v *big.Int) uint64 {
	return new(big.Int).And(v, mask(64)).Uint64()
}

// mask tells the number whose lowest width bits are set.
func mask(width uint) *big.Int {
	m := new(big.Int).Lsh(big.NewInt(1), width)
	return m.Sub(m, big.NewInt(1))
}

// whole tells the number that the lowest width bits of x are, signed or not.
func whole(x uint64, width uint, signed bool) *big.Int {
	v := new(big.Int).SetUint64(x)
	v.And(v, mask(width))
	if signed && v.Bit(int(width)-1) == 1 {
		v.Sub(v, new(big.Int).Lsh(big.NewInt(1), width))
	}
	return v
}

func left(width int64) func(v, a, c *big.Int) *big.Int {
	return func(v, a, c *big.Int) *big.Int { return v.Lsh(a, far(c, width)) }
}

func right(width int64) func(v, a, c *big.Int) *big.Int {
	return func(v, a, c *big.Int) *big.Int { return v.Rsh(a, far(c, width)) }
}

func far(c *big.Int, width int64) uint {
	return uint(new(big.Int).Mod(c, big.NewInt(width)).Uint64())
}

func less(v, a, c *big.Int) *big.Int {
	if a.Cmp(c) < 0 {
		return v.SetInt64(1)
	}
	return v.SetInt64(0)
}

func high(v, a, c *big.Int) *big.Int { return v.Rsh(v.Mul(a, c), 64) }

func quotient(v, a, c *big.Int) *big.Int {
	if c.Sign() == 0 {
		return v.SetInt64(-1)
	}
	return v.Quo(a, c)
}

func remainder(v, a, c *big.Int) *big.Int {
	if c.Sign() == 0 {
		return v.Set(a)
	}
	return v.Rem(a, c)
}

func second(v, a, c *big.Int) *big.Int { return v.Set(c) }

func lesser(v, a, c *big.Int) *big.Int {
	if a.Cmp(c) < 0 {
		return v.Set(a)
	}
	return v.Set(c)
}

func greater(v, a, c *big.Int) *big.Int {
	if a.Cmp(c) > 0 {
		return v.Set(a)
	}
	return v.Set(c)
}
