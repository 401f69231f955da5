package model_test

import (
	"slices"
	"strings"
	"testing"

	"postbag/api"
	"postbag/model"
)

// P16.2: each kind of pattern, with what fits and what does not, and what is bound.
func TestMatch(t *testing.T) {
	atoms := []string{"a", "b", "c", "b"}
	for _, x := range []struct {
		src          string
		v            api.Value
		names, bound string
		fits         bool
	}{
		{"_", integer(1), "", "", true},
		{"_", atom(1), "", "", true},
		{"_", pid(1), "", "", true},
		{"_", tuple(integer(1)), "", "", true},
		{"_", api.Value{}, "", "", true},
		{"x", integer(1), "x", "1", true},
		{"x", tuple(atom(1), pid(2)), "x", "{a1,p2}", true},
		{"x", api.Value{Kind: 9}, "x", "{}", true},
		{"1", integer(1), "", "", true},
		{"-1", integer(-1), "", "", true},
		{"0", integer(0), "", "", true},
		{"2305843009213693951", integer(1<<61 - 1), "", "", true},
		{"1", integer(-1), "", "", false},
		{"1", integer(2), "", "", false},
		{"1", atom(1), "", "", false},
		{"1", pid(1), "", "", false},
		{"1", tuple(integer(1)), "", "", false},
		{"0", api.Value{}, "", "", false},
		{"'a", atom(0), "", "", true},
		{"'a", integer(0), "", "", false},
		{"'a", pid(0), "", "", false},
		{"'a", atom(1), "", "", false},
		{"'b", atom(3), "", "", true}, // the last place
		{"'b", atom(1), "", "", false},
		{"'d", atom(-1), "", "", false},
		{"'d", integer(0), "", "", false},
		{"'d", atom(4), "", "", false},
		{"{_}", tuple(integer(1)), "", "", true},
		{"{_}", tuple(integer(1), integer(2)), "", "", false},
		{"{_, _}", tuple(integer(1)), "", "", false},
		{"{_}", integer(1), "", "", false},
		{"{_}", tuple(), "", "", false},
		{"{_}", api.Value{Args: integers(1)}, "", "", false},
		{"{x, y, z, w}", tuple(integers(1, 2, 3, 4)...), "x y z w", "1 2 3 4", true},
		{"{x, 2, y}", tuple(integers(1, 2, 3)...), "x y", "1 3", true},
		{"{x, 2, y}", tuple(integers(1, 3, 3)...), "", "", false},
		{"{x, {'a, y}, z}", tuple(integer(1), tuple(atom(0), pid(2)), tuple(integer(3))), "x y z", "1 p2 {3}", true},
		{"{x, {'a, y}, 4}", tuple(integer(1), tuple(atom(0), pid(2)), tuple(integer(3))), "", "", false},
		{"{{{x}, y}, z}", tuple(tuple(tuple(integer(1)), integer(2)), integer(3)), "x y z", "1 2 3", true},
	} {
		names, values, fits := model.Match(pattern(t, x.src), x.v, atoms)
		if fits != x.fits || strings.Join(names, " ") != x.names || texts(values) != x.bound || len(names) != len(values) {
			t.Errorf("%s: %v %s, %v", x.src, names, texts(values), fits)
		}
	}
}

// P16.2: patterns of any shape.
func TestMatchOdd(t *testing.T) {
	isMatch := func(what string, p api.Pattern, v api.Value, want bool, bound ...string) {
		t.Helper()
		names, values, fits := model.Match(p, v, nil)
		if fits != want || !slices.Equal(names, bound) || len(values) != len(bound) {
			t.Errorf("%s: %v, %v", what, names, fits)
		}
	}
	isMatch("no kind", api.Pattern{}, integer(0), false)
	isMatch("a kind below", api.Pattern{Kind: -1}, integer(0), false)
	isMatch("a kind above", api.Pattern{Kind: 6}, integer(0), false)
	isMatch("no atoms", api.Pattern{Kind: api.PatAtom, Name: "a"}, atom(0), false)
	isMatch("a tuple of none", api.Pattern{Kind: api.PatTuple}, tuple(), true)
	isMatch("a tuple of none, and a part", api.Pattern{Kind: api.PatTuple}, tuple(integer(1)), false)
	isMatch("one name twice", api.Pattern{Kind: api.PatTuple, Args: []api.Pattern{{Kind: api.PatVar, Name: "x"}, {Kind: api.PatVar, Name: "x"}}}, tuple(integers(1, 2)...), true, "x", "x")
	isMatch("an integer that may not be", api.Pattern{Kind: api.PatInt, N: 1 << 61}, integer(1<<61), true)
	isMatch("an integer, not what it would be wrapped", api.Pattern{Kind: api.PatInt, N: 1 << 61}, integer(-1<<61), false)
	isMatch("bound, ahead of what does not fit", api.Pattern{Kind: api.PatTuple, Args: []api.Pattern{{Kind: api.PatVar, Name: "x"}, {}}}, tuple(integers(1, 2)...), false)
	// Patterns and values that share lists, far greater than their memory.
	p, v, w := api.Pattern{Kind: api.PatInt, N: 3}, integer(3), integer(4)
	for range 60 {
		p = api.Pattern{Kind: api.PatTuple, Args: []api.Pattern{p, p}}
		v, w = tuple(v, v), tuple(v, w)
	}
	isMatch("shared", p, v, true)
	isMatch("shared, unlike at the end", p, w, false)
	isMatch("shared, with a variable behind", api.Pattern{Kind: api.PatTuple, Args: []api.Pattern{p, p, {Kind: api.PatVar, Name: "x"}}}, tuple(v, v, w), true, "x")
	// A list that binds something does so wherever it stands.
	p = pattern(t, "{{{x}, 1}, 2}")
	v = tuple(tuple(tuple(integer(7)), integer(1)), integer(2))
	isMatch("a variable in a shared list", api.Pattern{Kind: api.PatTuple, Args: []api.Pattern{p, p, p}}, tuple(v, v, v), true, "x", "x", "x")
	deep, in := api.Pattern{Kind: api.PatVar, Name: "x"}, integer(1)
	for range 1 << 16 {
		deep, in = api.Pattern{Kind: api.PatTuple, Args: []api.Pattern{deep}}, tuple(in)
	}
	isMatch("deep", deep, in, true, "x")
}
