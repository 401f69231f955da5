package pattern_test

import (
	"math"
	"slices"
	"testing"

	"postbag/api"
	"postbag/pattern"
)

// P17.1: a pattern's tests and variables.
func TestTestsAndVars(t *testing.T) {
	l := []string{"a", "b", "c", "b"}
	for _, x := range []struct{ src, tests, vars string }{
		{"_", "", ""},
		{"x", "", "/x"},
		{"3", "/i3", ""},
		{"0", "/i0", ""},
		{"-2305843009213693951", "/i-2305843009213693951", ""},
		{"'a", "/a0", ""},
		{"'b", "/a3", ""}, // the last place
		{"'c", "/a2", ""},
		{"'d", "/a-1", ""},
		{"{_}", "/t1", ""},
		{"{x}", "/t1", "0/x"},
		{"{1, 2, 3, 4}", "/t4 0/i1 1/i2 2/i3 3/i4", ""},
		{"{x, y, z, w}", "/t4", "0/x 1/y 2/z 3/w"},
		{"{'a, x, 3}", "/t3 0/a0 2/i3", "1/x"}, // the chapter's example
		{"{{x, 'd}, _, {y, {1, z}}, w}", "/t4 0/t2 0.1/a-1 2/t2 2.1/t2 2.1.0/i1", "0.0/x 2.0/y 2.1.1/z 3/w"},
		{"{{{{5}}}, {x}}", "/t2 0/t1 0.0/t1 0.0.0/t1 0.0.0.0/i5 1/t1", "1.0/x"},
	} {
		p := laid(t, x.src)
		if s := told(pattern.Tests(p, l), asked); s != x.tests {
			t.Errorf("%s: %s, not %s", x.src, s, x.tests)
		}
		if s := bound(pattern.Vars(p)); s != x.vars {
			t.Errorf("%s: variables %s, not %s", x.src, s, x.vars)
		}
	}
}

// P17.1: patterns of any shape.
func TestTestsAndVarsOdd(t *testing.T) {
	inner := []api.Pattern{variable("x"), whole(1)}
	many := group(slices.Repeat([]api.Pattern{variable("v")}, 12)...)
	many.Args[11] = whole(5)
	for what, x := range map[string]struct {
		p           api.Pattern
		tests, vars string
	}{
		"no kind":                      {api.Pattern{N: 3, Name: "a"}, "", ""},
		"no kind, with parts":          {api.Pattern{Args: inner}, "", ""},
		"a kind below":                 {api.Pattern{Kind: -1, Args: inner}, "", ""},
		"a kind above":                 {api.Pattern{Kind: 6, Args: inner}, "", ""},
		"_ with parts":                 {api.Pattern{Kind: api.PatAny, N: 1, Name: "a", Args: inner}, "", ""},
		"an integer with parts":        {api.Pattern{Kind: api.PatInt, N: 2, Args: inner}, "/i2", ""},
		"an atom with parts":           {api.Pattern{Kind: api.PatAtom, Name: "a", N: 7, Args: inner}, "/a0", ""},
		"a variable with parts":        {api.Pattern{Kind: api.PatVar, Name: "y", N: 7, Args: inner}, "", "/y"},
		"a tuple of no part":           {group(), "/t0", ""},
		"a tuple with a name":          {api.Pattern{Kind: api.PatTuple, Name: "a", N: 7, Args: inner}, "/t2 1/i1", "0/x"},
		"a tuple of more than it may":  {many, "/t12 11/i5", "0/v 1/v 2/v 3/v 4/v 5/v 6/v 7/v 8/v 9/v 10/v"},
		"tuples of no part in a tuple": {group(group(), group(), variable("")), "/t3 0/t0 1/t0", "2/"},
		"an integer that may not be":   {group(whole(math.MinInt), whole(math.MaxInt)), "/t2 0/i-9223372036854775808 1/i9223372036854775807", ""},
		"one name twice":               {group(variable("x"), group(variable("x"))), "/t2 1/t1", "0/x 1.0/x"},
	} {
		if s := told(pattern.Tests(x.p, []string{"a"}), asked); s != x.tests {
			t.Errorf("%s: %s, not %s", what, s, x.tests)
		}
		if s := bound(pattern.Vars(x.p)); s != x.vars {
			t.Errorf("%s: variables %s, not %s", what, s, x.vars)
		}
	}
	if s := told(pattern.Tests(group(named("a"), named("")), nil), asked); s != "/t2 0/a-1 1/a-1" {
		t.Errorf("no atoms: %s", s)
	}
	if s := told(pattern.Tests(group(named("a"), named("")), []string{"", "a", ""}), asked); s != "/t2 0/a1 1/a2" {
		t.Errorf("an atom without a name: %s", s)
	}
}

// P17.1: thrown patterns, held against a plain second telling.
func TestTestsAndVarsPlainly(t *testing.T) {
	r := row(1)
	for range 4000 {
		p := r.odd(3)
		if s, w := told(pattern.Tests(p, atoms()), asked), told(plainTests(p, atoms(), nil), asked); s != w {
			t.Fatalf("%+v: %s, not %s", p, s, w)
		}
		if s, w := bound(pattern.Vars(p)), bound(plainVars(p, nil)); s != w {
			t.Fatalf("%+v: %s, not %s", p, s, w)
		}
	}
}

// P17.1: variables of patterns that share lists, far greater than their memory, and of deep ones.
func TestVarsShared(t *testing.T) {
	p := group(whole(1), api.Pattern{})
	for range 60 {
		p = group(p, p, whole(1))
	}
	if s := bound(pattern.Vars(p)); s != "" {
		t.Errorf("shared: %s", s)
	}
	if s := bound(pattern.Vars(group(p, p, variable("x"), p))); s != "2/x" {
		t.Errorf("shared, with a variable beside: %s", s)
	}
	// A variable stands wherever its list does.
	q := laid(t, "{1, {x}}")
	if s := bound(pattern.Vars(group(q, whole(1), q))); s != "0.1.0/x 2.1.0/x" {
		t.Errorf("a variable in a shared list: %s", s)
	}
	// One list is the beginning of another one.
	l := []api.Pattern{whole(1), whole(2), variable("x")}
	if s := bound(pattern.Vars(group(group(l[:2]...), group(l...), group(l[:1]...)))); s != "1.2/x" {
		t.Errorf("a longer list: %s", s)
	}
	const depth = 1 << 16
	deep, in := variable("x"), integer(7)
	for range depth {
		deep, in = group(deep), tuple(in)
	}
	names, paths := pattern.Vars(deep)
	if len(names) != 1 || names[0] != "x" || len(paths) != 1 || len(paths[0]) != depth {
		t.Fatalf("deep: %v, %d", names, len(paths))
	}
	if v, ok := pattern.At(in, paths[0]); !ok || !same(v, integer(7)) {
		t.Errorf("deep: %d, %v", v.N, ok)
	}
	if !pattern.Fits(pattern.Test{Path: paths[0], Kind: api.PatInt, N: 7}, in) {
		t.Error("deep: it does not fit")
	}
}

// P17.1, P17.2: the tests of a deep pattern.
func TestTestsDeep(t *testing.T) {
	const depth = 1000
	p, v := named("b"), atom(3)
	for range depth {
		p, v = group(p), tuple(v)
	}
	tests := pattern.Tests(p, atoms())
	if len(tests) != depth+1 {
		t.Fatal(len(tests))
	}
	for k, x := range tests {
		kind, n := api.PatTuple, 1
		if k == depth {
			kind, n = api.PatAtom, 3
		}
		if len(x.Path) != k || x.Kind != kind || x.N != n || !pattern.Fits(x, v) {
			t.Fatalf("test %d: kind %d, %d", k, x.Kind, x.N)
		}
	}
	nodes, firsts := pattern.Plan([]api.Pattern{p, p, variable("x")}, atoms())
	if pattern.Go(nodes, firsts[0], v) != 0 || pattern.Go(nodes, firsts[1], v) != 1 || pattern.Go(nodes, firsts[0], atom(3)) != 2 || nodes[depth].No != firsts[2] {
		t.Error(len(nodes), firsts)
	}
}

// P17.1: the part at a path.
func TestAt(t *testing.T) {
	v := tuple(integer(1), tuple(atom(2), tuple(pid(3))), tuple(integer(4), integer(5)))
	isAt := func(what string, v api.Value, path []int, want api.Value, there bool) {
		t.Helper()
		if part, ok := pattern.At(v, path); ok != there || !same(part, want) {
			t.Errorf("%s: %+v, %v", what, part, ok)
		}
	}
	isAt("no place", v, nil, v, true)
	isAt("no place, of nothing", api.Value{}, []int{}, api.Value{}, true)
	isAt("the first part", v, []int{0}, integer(1), true)
	isAt("the last part", v, []int{2}, tuple(integer(4), integer(5)), true)
	isAt("a part of a part", v, []int{2, 1}, integer(5), true)
	isAt("deeper", v, []int{1, 1, 0}, pid(3), true)
	isAt("a part that is a tuple", v, []int{1, 1}, tuple(pid(3)), true)
	for what, path := range map[string][]int{
		"one beyond":               {3},
		"one beyond, further in":   {1, 2},
		"one beyond, deep":         {1, 1, 1},
		"below":                    {-1},
		"below, further in":        {1, -1},
		"the least one":            {math.MinInt},
		"the greatest one":         {math.MaxInt},
		"into an integer":          {0, 0},
		"into an atom":             {1, 0, 0},
		"into an actor's number":   {1, 1, 0, 0},
		"on behind what is not":    {3, 0},
		"on behind what is not, 2": {-1, 0},
	} {
		isAt(what, v, path, api.Value{}, false)
	}
	for kind := -1; kind < 6; kind++ { // values of any shape: a part is one, whatever the Kind
		odd := api.Value{Kind: kind, N: 3, Args: []api.Value{integer(1), {Kind: kind, Args: []api.Value{atom(2)}}}}
		isAt("a part of a value of any shape", odd, []int{1, 0}, atom(2), true)
		isAt("no part of a value of any shape", odd, []int{2}, api.Value{}, false)
	}
	isAt("of nothing", api.Value{}, []int{0}, api.Value{}, false)
	isAt("of a tuple of no part", tuple(), []int{0}, api.Value{}, false)
	isAt("what has a list of no part", api.Value{Kind: api.ValInt, Args: []api.Value{}}, []int{0}, api.Value{}, false)
}

// P17.1: whether a test fits: of each Kind, of others, and where there is no part.
func TestFits(t *testing.T) {
	v := tuple(integer(1), atom(1), pid(1), tuple(integer(1)))
	for _, x := range []struct {
		path    []int
		kind, n int
		want    bool
	}{
		{nil, api.PatTuple, 4, true},
		{nil, api.PatTuple, 3, false},
		{nil, api.PatTuple, 5, false},
		{nil, api.PatTuple, 0, false},
		{nil, api.PatTuple, -4, false},
		{nil, api.PatInt, 0, false},
		{nil, api.PatAtom, 0, false},
		{nil, api.PatInt, 4, false},
		{[]int{0}, api.PatInt, 1, true},
		{[]int{0}, api.PatInt, 2, false},
		{[]int{0}, api.PatInt, -1, false},
		{[]int{0}, api.PatAtom, 1, false},
		{[]int{0}, api.PatTuple, 1, false},
		{[]int{0}, api.PatTuple, 0, false},
		{[]int{1}, api.PatAtom, 1, true},
		{[]int{1}, api.PatAtom, 0, false},
		{[]int{1}, api.PatAtom, -1, false},
		{[]int{1}, api.PatInt, 1, false},
		{[]int{1}, api.PatTuple, 0, false},
		{[]int{2}, api.PatInt, 1, false},
		{[]int{2}, api.PatAtom, 1, false},
		{[]int{2}, api.PatTuple, 0, false},
		{[]int{3}, api.PatTuple, 1, true},
		{[]int{3}, api.PatTuple, 2, false},
		{[]int{3, 0}, api.PatInt, 1, true},
		{[]int{3, 0}, api.PatInt, 0, false},
		{[]int{3, 1}, api.PatInt, 0, false}, // what is not there is not the zero value
		{[]int{4}, api.PatInt, 0, false},
		{[]int{4}, api.PatTuple, 0, false},
		{[]int{-1}, api.PatInt, 1, false},
		{[]int{0, 0}, api.PatInt, 1, false},
	} {
		if pattern.Fits(pattern.Test{Path: x.path, Kind: x.kind, N: x.n}, v) != x.want {
			t.Errorf("%v, kind %d, %d: not %v", x.path, x.kind, x.n, x.want)
		}
	}
	for _, kind := range []int{-1, 0, api.PatAny, api.PatVar, 6, math.MaxInt, math.MinInt} {
		for _, in := range []api.Value{v, integer(0), atom(0), pid(0), {Kind: kind}, {}} {
			if pattern.Fits(pattern.Test{Kind: kind, N: in.N}, in) {
				t.Errorf("kind %d fits %+v", kind, in)
			}
		}
	}
	if !pattern.Fits(pattern.Test{Kind: api.PatTuple}, tuple()) || pattern.Fits(pattern.Test{Kind: api.PatTuple}, api.Value{}) {
		t.Error("a tuple of no part")
	}
}

// P17.1: thrown tests of thrown values.
func TestFitsPlainly(t *testing.T) {
	r := row(2)
	fit := 0
	for range 20000 {
		v := r.value(3)
		path := some(&r, 0, 2, func() int { return one(&r, 0, 0, 0, 1, 1, 2, 3, 4, -1) })
		x := pattern.Test{Path: path, Kind: one(&r, 2, 2, 3, 3, 5, 5, r.next(7)), N: one(&r, 0, 1, 2, 3, 4, -1)}
		want := plainFits(x, v)
		if pattern.Fits(x, v) != want {
			t.Fatalf("%s of %+v: not %v", asked(x), v, want)
		}
		if want {
			fit++
		}
	}
	if fit < 250 {
		t.Errorf("but %d fit", fit)
	}
}
