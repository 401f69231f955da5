package value_test

import (
	"math/big"
	"testing"

	"postbag/api"
	"postbag/value"
)

// P15.2: each sign with integers at their ends.
func TestOpIntegers(t *testing.T) {
	const most, least = 1<<61 - 1, -1 << 61
	for _, x := range []struct {
		sign    string
		a, b, n int
	}{
		{"+", 2, 3, 5}, {"+", -2, 2, 0}, {"+", most, 1, least}, {"+", least, -1, most}, {"+", most, most, -2}, {"+", least, least, 0},
		{"-", 2, 3, -1}, {"-", least, 1, most}, {"-", most, -1, least}, {"-", 0, least, least}, {"-", 5, 5, 0},
		{"*", 6, 7, 42}, {"*", -6, 7, -42}, {"*", most, 2, -2}, {"*", least, -1, least}, {"*", 1 << 40, 1 << 40, 0}, {"*", most, most, 1}, {"*", least, least, 0}, {"*", 1<<31 + 1, 1<<31 + 1, 1<<32 + 1},
		{"<", 1, 2, 1}, {"<", 2, 2, 0}, {"<", 3, 2, 0}, {"<", least, most, 1}, {"<", most, least, 0}, {"<", -1, 0, 1},
		{"==", 2, 2, 1}, {"==", 2, 3, 0}, {"==", least, least, 1}, {"==", least, most, 0},
		{"", 2, 2, 0}, {"/", 4, 2, 0}, {">", 4, 2, 0}, {"=", 2, 2, 0}, {"++", 2, 2, 0}, {" +", 2, 2, 0}, {"<=", 1, 2, 0}, {"!=", 1, 2, 0},
	} {
		is(t, x.sign, value.Op(x.sign, integer(x.a), integer(x.b)), integer(x.n))
	}
}

// P15.2: what is no integer counts as 0, but for ==.
func TestOpOthers(t *testing.T) {
	for what, x := range map[string]struct {
		sign string
		a, b api.Value
		n    int
	}{
		"an atom, +":                {"+", atom(5), integer(3), 3},
		"an actor, +":               {"+", integer(3), pid(5), 3},
		"two atoms, +":              {"+", atom(5), atom(6), 0},
		"a tuple, -":                {"-", tuple(integer(9)), integer(4), -4},
		"from an integer a tuple":   {"-", integer(4), tuple(integer(9)), 4},
		"an atom, *":                {"*", atom(5), integer(3), 0},
		"two actors, *":             {"*", pid(5), pid(3), 0},
		"a tuple, <":                {"<", tuple(integer(9)), integer(1), 1},
		"an atom, <":                {"<", integer(-1), atom(0), 1},
		"two atoms, <":              {"<", atom(1), atom(2), 0},
		"an actor above":            {"<", integer(0), pid(2), 0},
		"two atoms":                 {"==", atom(1), atom(1), 1},
		"two other atoms":           {"==", atom(1), atom(2), 0},
		"two actors":                {"==", pid(3), pid(3), 1},
		"an atom and an actor":      {"==", atom(3), pid(3), 0},
		"an integer and an actor":   {"==", integer(2), pid(2), 0},
		"an atom and an integer":    {"==", atom(0), integer(0), 0},
		"tuples alike":              {"==", tuple(integer(1)), tuple(integer(1)), 0},
		"a tuple and an integer":    {"==", tuple(integer(0)), integer(0), 0},
		"a tuple and itself":        {"==", shared(60, 4, pid(1)), shared(60, 4, pid(1)), 0},
		"another sign and atoms":    {"===", atom(1), atom(1), 0},
		"no sign and tuples":        {"", tuple(integer(1)), tuple(integer(1)), 0},
		"what is no value, +":       {"+", api.Value{N: 7}, integer(1), 1},
		"what is no value, <":       {"<", api.Value{N: -7}, integer(0), 0},
		"an integer that may not":   {"+", integer(1 << 61), integer(1), -1<<61 + 1},
		"integers that may not be":  {"*", integer(1 << 62), integer(3), 0},
		"the greatest number and 1": {"+", integer(1<<63 - 1), integer(1), 0},
		"integers beyond, <":        {"<", integer(1 << 61), integer(-1 << 61), 0},
	} {
		is(t, what, value.Op(x.sign, x.a, x.b), integer(x.n))
	}
}

// P15.2: thrown integers, held against whole numbers.
func TestOpPlainly(t *testing.T) {
	r := row(4)
	whole := func(n int) *big.Int { return big.NewInt(int64(n)) }
	modulus, half := new(big.Int).Lsh(big.NewInt(1), 62), new(big.Int).Lsh(big.NewInt(1), 61)
	wrapped := func(n *big.Int) int {
		n.Add(n, half).Mod(n, modulus)
		return int(n.Sub(n, half).Int64())
	}
	for range 3000 {
		a, b := r.number(), r.number()
		for sign, want := range map[string]int{
			"+":  wrapped(new(big.Int).Add(whole(a), whole(b))),
			"-":  wrapped(new(big.Int).Sub(whole(a), whole(b))),
			"*":  wrapped(new(big.Int).Mul(whole(a), whole(b))),
			"<":  map[bool]int{true: 1}[whole(a).Cmp(whole(b)) < 0],
			"==": map[bool]int{true: 1}[whole(a).Cmp(whole(b)) == 0],
		} {
			is(t, sign, value.Op(sign, integer(a), integer(b)), integer(want))
		}
	}
}

// P15.2: what holds is an integer other than 0.
func TestHolds(t *testing.T) {
	for _, v := range []api.Value{integer(1), integer(-1), integer(1<<61 - 1), integer(-1 << 61)} {
		if !value.Holds(v) {
			t.Errorf("%s holds", value.Text(v))
		}
	}
	for _, v := range []api.Value{integer(0), atom(0), atom(1), pid(0), pid(1), tuple(integer(1)), tuple(), {}, {Kind: 9, N: 1}, {Kind: api.ValTuple, N: 1}} {
		if value.Holds(v) {
			t.Errorf("%s does not hold", value.Text(v))
		}
	}
}

// P15.6: sums and products are alike modulo 2^62, however they are put together.
func TestRing(t *testing.T) {
	r := row(5)
	op := func(sign string, a, b api.Value) api.Value {
		v := value.Op(sign, a, b)
		if !value.Good(v) {
			t.Fatalf("%s of %s and %s: %s", sign, value.Text(a), value.Text(b), value.Text(v))
		}
		return v
	}
	for range 2000 {
		a, b, c := integer(r.number()), integer(r.number()), integer(r.number())
		is(t, "sums, turned", op("+", a, b), op("+", b, a))
		is(t, "products, turned", op("*", a, b), op("*", b, a))
		is(t, "sums of sums", op("+", op("+", a, b), c), op("+", a, op("+", b, c)))
		is(t, "products of products", op("*", op("*", a, b), c), op("*", a, op("*", b, c)))
		is(t, "products of sums", op("*", a, op("+", b, c)), op("+", op("*", a, b), op("*", a, c)))
		is(t, "a difference", op("+", op("-", a, b), b), a)
		is(t, "a difference as a sum", op("-", a, b), op("+", a, op("*", integer(-1), b)))
	}
}
