package value_test

import (
	"slices"
	"testing"

	"postbag/api"
	"postbag/value"
)

// P15.1: which values may be, of each kind, at both ends and one beyond.
func TestGood(t *testing.T) {
	for what, v := range map[string]api.Value{
		"0":                       integer(0),
		"the least integer":       integer(-1 << 61),
		"the greatest integer":    integer(1<<61 - 1),
		"an empty list":           {Kind: api.ValInt, Args: []api.Value{}},
		"the first atom":          atom(0),
		"the last atom":           atom(1<<20 - 1),
		"the first actor":         pid(0),
		"the last actor":          pid(1<<20 - 1),
		"a tuple of one":          tuple(integer(0)),
		"a tuple of MaxTuple":     tuple(integer(1), atom(2), pid(3), tuple(integer(4))),
		"MaxDepth tuples":         nested(api.MaxDepth, integer(1)),
		"MaxDepth of them beside": tuple(nested(api.MaxDepth-1, atom(0)), nested(api.MaxDepth-1, pid(0))),
		"shared lists":            shared(api.MaxDepth, 4, integer(7)),
	} {
		if !value.Good(v) {
			t.Errorf("%s may be", what)
		}
	}
	for what, v := range map[string]api.Value{
		"nothing":                        {},
		"a Kind below":                   {Kind: -1},
		"a Kind above":                   {Kind: 5},
		"an integer below":               integer(-1<<61 - 1),
		"an integer above":               integer(1 << 61),
		"the least number":               integer(-1 << 63),
		"the greatest number":            integer(1<<63 - 1),
		"an integer with parts":          {Kind: api.ValInt, Args: []api.Value{integer(1)}},
		"an atom below":                  atom(-1),
		"an atom above":                  atom(1 << 20),
		"an atom with parts":             {Kind: api.ValAtom, Args: []api.Value{integer(1)}},
		"an actor below":                 pid(-1),
		"an actor above":                 pid(1 << 20),
		"an actor with parts":            {Kind: api.ValPid, Args: []api.Value{integer(1)}},
		"a tuple of none":                tuple(),
		"a tuple of an empty list":       tuple([]api.Value{}...),
		"a tuple of one too many":        tuple(slices.Repeat([]api.Value{integer(1)}, api.MaxTuple+1)...),
		"a tuple with N":                 {Kind: api.ValTuple, N: 1, Args: []api.Value{integer(1)}},
		"a part that may not be":         tuple(integer(1), integer(2), tuple(atom(-1))),
		"a part of no Kind":              tuple(integer(1), api.Value{}),
		"a tuple of none in one":         tuple(tuple(), integer(1)),
		"one tuple too many":             nested(api.MaxDepth+1, integer(1)),
		"one too many at the last place": tuple(integer(1), nested(api.MaxDepth, integer(1))),
		"very many":                      nested(1<<16, integer(1)),
		"shared lists, one too deep":     shared(api.MaxDepth+1, 4, integer(7)),
		"shared lists with what is not":  shared(60, 4, pid(-1)),
		"one that stands in itself":      looped(),
	} {
		if value.Good(v) {
			t.Errorf("%s: may not be", what)
		}
		if n := value.Words(v); n != 0 {
			t.Errorf("%s: %d words", what, n)
		}
		if w, l, e := value.Encode(v, []uint64{1}, 0); w != 0 || len(l) != 0 || e != api.ErrValue {
			t.Errorf("%s: encoded as %d, %v, %d", what, w, l, int(e))
		}
	}
}

// P15.1: one list that stands at unlike depths is as deep as the deepest.
func TestGoodDepths(t *testing.T) {
	v := nested(60, integer(1))
	for above := range 10 {
		for _, w := range []api.Value{tuple(v, nested(above, v)), tuple(nested(above, v), v)} {
			if good := value.Good(w); good != (above <= 3) {
				t.Errorf("%d above 60: %v", above, good)
			}
		}
	}
}

// P15.1: thrown values, held against the words of the chapter.
func TestGoodPlainly(t *testing.T) {
	var good func(v api.Value) bool
	good = func(v api.Value) bool {
		switch v.Kind {
		case 1:
			return -2305843009213693952 <= v.N && v.N <= 2305843009213693951 && len(v.Args) == 0
		case 2, 3:
			return 0 <= v.N && v.N <= 1048575 && len(v.Args) == 0
		case 4:
			return v.N == 0 && 1 <= len(v.Args) && len(v.Args) <= 4 && !slices.ContainsFunc(v.Args, func(p api.Value) bool { return !good(p) })
		}
		return false
	}
	r := row(1)
	for range 3000 {
		v := r.any(3)
		if len(v.Args) > 0 && r.next(2) == 0 {
			v.Args[r.next(len(v.Args))] = r.any(2)
		}
		if value.Good(v) != good(v) {
			t.Fatalf("%+v: %v", v, value.Good(v))
		}
	}
}
