package value_test

import (
	"math/big"
	"strings"
	"testing"

	"postbag/api"
	"postbag/value"
)

// P15.1: the text of each kind, and of a Kind that is none.
func TestText(t *testing.T) {
	for want, v := range map[string]api.Value{
		"0":                     integer(0),
		"-1":                    integer(-1),
		"41":                    integer(41),
		"2305843009213693951":   integer(1<<61 - 1),
		"-2305843009213693952":  integer(-1 << 61),
		"-9223372036854775808":  integer(-1 << 63),
		"a0":                    atom(0),
		"a1048575":              atom(1<<20 - 1),
		"a-3":                   atom(-3),
		"p12":                   pid(12),
		"p-9223372036854775808": pid(-1 << 63),
		"{1}":                   tuple(integer(1)),
		"{-1,{a3},p2}":          tuple(integer(-1), tuple(atom(3)), pid(2)),
		"{1,2,3,4,5}":           tuple(integer(1), integer(2), integer(3), integer(4), integer(5)),
		"{{{}}}":                nested(2, tuple()),
		"{}":                    {},
		"{7,{}}":                {Kind: 9, N: 5, Args: []api.Value{integer(7), {Kind: -1, N: 2}}},
		"{8}":                   {Kind: api.ValTuple, N: 3, Args: []api.Value{integer(8)}},
		"5":                     {Kind: api.ValInt, N: 5, Args: []api.Value{integer(1)}},
		strings.Repeat("{", 64) + "p0" + strings.Repeat("}", 64): nested(64, pid(0)),
	} {
		if s := value.Text(v); s != want {
			t.Errorf("%q, not %q", s, want)
		}
	}
	if s := value.Text(nested(1<<16, integer(1))); len(s) != 2<<16+1 {
		t.Error(len(s))
	}
}

// P15.1: the number from -2^61 to 2^61 - 1 that differs from n by a multiple of 2^62.
func TestWrap(t *testing.T) {
	for n, want := range map[int]int{
		0: 0, 1: 1, -1: -1,
		1<<61 - 1: 1<<61 - 1, -1 << 61: -1 << 61,
		1 << 61: -1 << 61, -1<<61 - 1: 1<<61 - 1,
		1 << 62: 0, -1 << 62: 0, 1<<62 - 1: -1, 1<<62 + 5: 5, 3 << 61: -1 << 61,
		1<<63 - 1: -1, -1 << 63: 0, -1<<63 + 1: 1,
	} {
		if w := value.Wrap(n); w != want {
			t.Errorf("%d: %d, not %d", n, w, want)
		}
	}
	r := row(3)
	modulus := new(big.Int).Lsh(big.NewInt(1), 62)
	for range 3000 {
		n := r.next(1<<31)<<33 ^ r.next(1<<31)<<7 ^ r.next(1<<31)
		w := value.Wrap(n)
		apart := new(big.Int).Sub(big.NewInt(int64(n)), big.NewInt(int64(w)))
		if w < -1<<61 || w > 1<<61-1 || apart.Mod(apart, modulus).Sign() != 0 {
			t.Fatal(n, w)
		}
	}
}
