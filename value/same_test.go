package value_test

import (
	"testing"

	"postbag/api"
	"postbag/value"
)

func isSame(t *testing.T, what string, a, b api.Value, want bool) {
	t.Helper()
	if value.Same(a, b) != want || value.Same(b, a) != want {
		t.Errorf("%s: not %v", what, want)
	}
}

// P15.1: whether all of both is the same.
func TestSame(t *testing.T) {
	deep := tuple(integer(1), tuple(atom(2), pid(3)), tuple(tuple(integer(-4))))
	isSame(t, "in memory of its own", deep, copied(deep), true)
	isSame(t, "itself", deep, deep, true)
	isSame(t, "nothing", api.Value{}, api.Value{}, true)
	isSame(t, "no list, and an empty one", integer(1), api.Value{Kind: api.ValInt, N: 1, Args: []api.Value{}}, true)
	isSame(t, "of no Kind", api.Value{Kind: 9, N: 2, Args: []api.Value{deep}}, api.Value{Kind: 9, N: 2, Args: []api.Value{copied(deep)}}, true)
	for what, l := range map[string][2]api.Value{
		"N":               {integer(1), integer(2)},
		"Kind":            {atom(1), pid(1)},
		"Kind of none":    {{}, {Kind: 9}},
		"a part's N":      {tuple(integer(1), atom(2)), tuple(integer(1), atom(3))},
		"a part's Kind":   {tuple(integer(2), atom(2)), tuple(integer(2), pid(2))},
		"one part more":   {tuple(integer(2)), tuple(integer(2), integer(2))},
		"parts' order":    {tuple(integer(1), integer(2)), tuple(integer(2), integer(1))},
		"a deep part":     {deep, tuple(integer(1), tuple(atom(2), pid(3)), tuple(tuple(integer(4))))},
		"one tuple more":  {nested(5, integer(1)), nested(6, integer(1))},
		"parts of no own": {{Kind: api.ValInt}, {Kind: api.ValInt, Args: []api.Value{{}}}},
		"a tuple's N":     {tuple(integer(1)), {Kind: api.ValTuple, N: 1, Args: []api.Value{integer(1)}}},
	} {
		isSame(t, what, l[0], l[1], false)
	}
}

// P15.1: values that share lists, those that are deep, and those that differ at their last part.
func TestSameShared(t *testing.T) {
	isSame(t, "shared", shared(60, 4, integer(1)), shared(60, 4, integer(1)), true)
	isSame(t, "shared, unlike at the bottom", shared(60, 4, integer(1)), shared(60, 4, integer(2)), false)
	isSame(t, "shared, unlike in depth", shared(60, 4, integer(1)), shared(61, 4, integer(1)), false)
	isSame(t, "deep", nested(1<<16, integer(1)), nested(1<<16, integer(1)), true)
	isSame(t, "deep, unlike", nested(1<<16, integer(1)), nested(1<<16, integer(2)), false)
	// One list is the beginning of another one.
	l := []api.Value{integer(1), integer(2), integer(3)}
	isSame(t, "a longer list", tuple(l[:2]...), tuple(l...), false)
	isSame(t, "another part of it", tuple(l[:2]...), tuple(l[1:]...), false)
	// The same two lists are met a second time, where one of them has an unlike part behind it.
	a, b := tuple(integer(1), integer(2)), tuple(integer(1), integer(2))
	isSame(t, "met again", tuple(a, a, integer(1)), tuple(b, b, integer(2)), false)
}

// P15.1: thrown values, and what differs in one part alone.
func TestSamePlainly(t *testing.T) {
	r := row(2)
	for range 2000 {
		a, b := r.any(3), r.any(3)
		isSame(t, "thrown", a, b, like(a, b))
		c := copied(a)
		isSame(t, "copied", a, c, true)
		at := &c
		for len(at.Args) > 0 && r.next(3) > 0 {
			at = &at.Args[r.next(len(at.Args))]
		}
		switch r.next(3) {
		case 0:
			at.N++
		case 1:
			at.Kind++
		default:
			at.Args = append(at.Args, integer(0))
		}
		isSame(t, "changed", a, c, false)
	}
}
