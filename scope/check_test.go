package scope_test

import (
	"reflect"
	"slices"
	"strings"
	"testing"

	"postbag/api"
	"postbag/scope"
	"postbag/tree"
)

// P14.1: the chapter's example.
func TestExample(t *testing.T) {
	isTold(t, "actor A(x) { out y; stop } main A(1)", 17, api.ErrName)
}

// P14.1: nothing is wrong.
func TestRight(t *testing.T) {
	for _, src := range []string{
		"actor A() { stop } main A()",
		"actor A(x) { out x; stop } main A(1)",
		"actor A(a, b, c, d, e, f, g, h) { become A(h, g, f, e, d, c, b, a) } main A(1, 2, 3, 4, 5, 6, 7, 8)",
		"actor A(x) { let y = x; let z = spawn A({x, y}); send z, y; out z; become A(z + x) } main A('a)",
		"actor A() { become B(1) } actor B(x) { become A() } main B(self)",
		"actor A() { let b = spawn B(1); stop } actor B(x) { let a = spawn A(); stop } main A()",
		// A variable, an actor and an atom are no names of one another.
		"actor A(A) { let B = A; let b = spawn B(); stop } actor B() { stop } main A('A)",
		"actor x(x) { let y = spawn x(x); become x('x) } main x('x)",
		// The same name in two Defs.
		"actor A(x) { let y = x; stop } actor B(x) { let y = x; stop } main B(1)",
	} {
		isRight(t, src)
	}
}

// P14.1: a tree that may not be.
func TestNoTree(t *testing.T) {
	stop := api.Body{Kind: api.EndStop}
	deep := api.Expr{Kind: api.ExprVar, At: 7, Name: "x"}
	for range 64 {
		deep = api.Expr{Kind: api.ExprTuple, At: 7, Args: []api.Expr{deep}}
	}
	for i, p := range []api.Program{
		{},
		{Main: "A"},
		{Defs: []api.Def{{Name: "A", Body: stop}}},
		{Defs: []api.Def{{Name: "A", At: 5}}, Main: "A", At: 9},
		{Defs: []api.Def{{Name: "A", At: 5, Body: stop}, {Name: "A", At: 6, Body: stop}}, Main: "self", At: 9},
		{Defs: []api.Def{{Name: "A", At: 5, Body: stop}}, Main: "A", At: 9, Args: []api.Expr{{Kind: api.ExprVar, At: 3, Name: "?"}}},
		{Defs: []api.Def{{Name: "A", At: 5, Body: stop}}, Main: "A", At: 9, Args: []api.Expr{{Kind: api.ExprAtom, Name: "a"}, {Kind: 7, At: 3}}},
		{Defs: []api.Def{{Name: "A", At: 5, Body: stop}}, Main: "A", At: 9, Args: []api.Expr{{Kind: api.ExprAtom, Name: "a"}, deep}},
		{Defs: slices.Repeat([]api.Def{{Name: "A", At: 5, Body: stop}}, 65), Main: "A", At: 9},
		{Defs: []api.Def{{Name: "A", At: 5, Body: stop, Params: slices.Repeat([]string{"x"}, 9)}}, Main: "A", At: 9},
	} {
		if at, e := scope.Check(p); at != 0 || e != api.ErrSyntax {
			t.Errorf("%d: %d at %d", i, int(e), at)
		}
		if l := scope.Atoms(p); len(l) != 0 {
			t.Errorf("%d: %q", i, l)
		}
	}
}

// P14.1: a Name of a Def, or a Param, twice.
func TestDefsTwice(t *testing.T) {
	for src, at := range map[string]int{
		"actor A() { stop } actor A() { stop } main A()":                                       19,
		"actor A() { stop } actor A(x) { stop } main A(1)":                                     19,
		"actor A() { stop } actor B() { stop } actor A() { stop } main A()":                    38,
		"actor A() { stop } actor B() { stop } actor B() { stop } actor A() { stop } main A()": 38,
		"actor A(x, x) { stop } main A(1, 2)":                                                  0,
		"actor A(x, y, x) { stop } main A(1, 2)":                                               0,
		"actor A(a, b, c, d, e, f, g, g) { stop } main A(1, 2)":                                0,
		" actor A() { stop } actor B(y, y) { stop } main A()":                                  20,
		"actor A() { stop } actor B(y, y) { stop } actor A() { stop } main A()":                19,
		"actor A() { stop } actor A() { stop } actor B(y, y) { stop } main A()":                19,
		// All Defs come ahead of the first body.
		"actor A() { out x; stop } actor A() { stop } main A()":       26,
		"actor A() { out x; stop } actor B(x, x) { stop } main A()":   26,
		"actor A() { become C() } actor B(x, x) { stop } main D(1)":   25,
		"actor A(x) { let x = 1; stop } actor A() { stop } main A(1)": 31,
	} {
		isTold(t, src, at, api.ErrTwice)
	}
	isRight(t, "actor A(B) { stop } actor B(A) { stop } main A(1)")
	isRight(t, "actor A(a, aa, aaa) { stop } actor AA(a) { stop } main AA(1)")
}

// P14.1: a Name of a let or a spawn that is in scope already.
func TestBoundTwice(t *testing.T) {
	for src, at := range map[string]int{
		"actor A(x) { let x = 1; stop } main A(1)":                                                                          13,
		"actor A(x) { let x = x; stop } main A(1)":                                                                          13,
		"actor A(x) { let x = spawn A(1); stop } main A(1)":                                                                 13,
		"actor A(x) { let x = spawn A(x); stop } main A(1)":                                                                 13,
		"actor A() { let x = 1; let x = 2; stop } main A()":                                                                 23,
		"actor A() { let x = 1; out x; let y = 2; let x = x + y; stop } main A()":                                           41,
		"actor A() { let x = spawn A(); let x = 2; stop } main A()":                                                         31,
		"actor A() { let x = 1; let x = spawn A(); stop } main A()":                                                         23,
		"actor A(a, b) { if 1 { let b = 1; stop } else { stop } } main A(1, 2)":                                             23,
		"actor A() { let x = 1; if 1 { stop } else { let x = 1; stop } } main A()":                                          44,
		"actor A() { let x = 1; receive { _ { let x = 1; stop } } } main A()":                                               37,
		"actor A() { receive { x { let x = 1; stop } } } main A()":                                                          26,
		"actor A() { receive { {_, {x}} { let x = spawn A(); stop } } } main A()":                                           33,
		"actor A() { let x = 1; receive { after 0 { let x = 1; stop } } } main A()":                                         43,
		"actor A() { receive { x { if 1 { let y = x; if 1 { let x = 1; stop } else { stop } } else { stop } } } } main A()": 51,
	} {
		isTold(t, src, at, api.ErrTwice)
	}
}

// P14.1: a variable of a Pattern that is in scope, or stands ahead in it.
func TestMatchedTwice(t *testing.T) {
	for src, at := range map[string]int{
		"actor A() { receive { {n, n} { stop } } } main A()":                                         26,
		"actor A() { receive { {n, {m, {n}}} { stop } } } main A()":                                  31,
		"actor A() { receive { {{{n}}, n} { stop } } } main A()":                                     30,
		"actor A() { receive { {a, b, c, {b}} { stop } } } main A()":                                 33,
		"actor A(x) { receive { x { stop } } } main A(1)":                                            23,
		"actor A(x) { receive { {1, 'x, x} { stop } } } main A(1)":                                   31,
		"actor A() { let x = 1; receive { _ { stop } x { stop } } } main A()":                        44,
		"actor A() { let x = spawn A(); receive { {x} { stop } } } main A()":                         42,
		"actor A() { receive { x { receive { x { stop } } } } } main A()":                            36,
		"actor A() { receive { {x} when x { receive { y { receive { x { stop } } } } } } } main A()": 59,
		"actor A() { let x = 1; if x { receive { x { stop } } } else { stop } } main A()":            40,
		"actor A() { let x = 1; receive { after 1 { receive { x { stop } } } } } main A()":           53,
	} {
		isTold(t, src, at, api.ErrTwice)
	}
	isRight(t, "actor A() { receive { x { stop } x { stop } {x, y} { stop } {y, x} { stop } after 1 { receive { x { stop } } } } } main A()")
}

// P14.1: a variable that is not there, at each place where one may be asked.
func TestUnknownVariable(t *testing.T) {
	for src, at := range map[string]int{
		"actor A() { let y = x; stop } main A()":                              20,
		"actor A() { let y = {1, {'x, x}}; stop } main A()":                   29,
		"actor A() { let y = 1 + x; stop } main A()":                          24,
		"actor A() { let y = (x * 2) == 3; stop } main A()":                   21,
		"actor A() { let y = spawn A(x); stop } main A()":                     28,
		"actor A() { send x, 1; stop } main A()":                              17,
		"actor A() { send self, x; stop } main A()":                           23,
		"actor A() { send x, y; stop } main A()":                              17,
		"actor A() { out x; stop } main A()":                                  16,
		"actor A() { become A(x) } main A()":                                  21,
		"actor A(y, z) { become A(y, x) } main A(1, 2)":                       28,
		"actor A() { if x { stop } else { stop } } main A()":                  15,
		"actor A() { receive { _ when x { stop } } } main A()":                29,
		"actor A() { receive { y when y < x { stop } } } main A()":            33,
		"actor A() { receive { y { out x; stop } } } main A()":                30,
		"actor A() { receive { after 1 { out x; stop } } } main A()":          36,
		"actor A() { if 1 { out x; stop } else { stop } } main A()":           23,
		"actor A() { if 1 { stop } else { out x; stop } } main A()":           37,
		"actor A(x) { stop } main A(x)":                                       27,
		"actor A(x) { let y = 1; stop } main A({1, y})":                       42,
		"actor A(x) { stop } main A(A)":                                       27,
		"actor A(x) { stop } actor B(y) { out x; stop } main A(1)":            37,
		"actor A(x) { let z = 1; stop } actor B(y) { out z; stop } main A(1)": 48,
		"actor A(a) { out aa; stop } main A(1)":                               17,
		"actor A(aa) { out a; stop } main A(1)":                               18,
		"actor A(a) { out A; stop } main A(1)":                                17,
	} {
		isTold(t, src, at, api.ErrName)
	}
}

// P14.1: a name is bound behind its own Args, and from there on.
func TestBoundBehindItsArgs(t *testing.T) {
	isTold(t, "actor A() { let x = x; stop } main A()", 20, api.ErrName)
	isTold(t, "actor A() { let x = {1, x}; stop } main A()", 24, api.ErrName)
	isTold(t, "actor A(y) { let x = spawn A(x); stop } main A(1)", 29, api.ErrName)
	isTold(t, "actor A() { out x; let x = 1; stop } main A()", 16, api.ErrName)
	isTold(t, "actor A() { send self, x; let x = spawn A(); stop } main A()", 23, api.ErrName)
	isRight(t, "actor A() { let x = 1; let y = x; let z = {x, y}; out z; stop } main A()")
	isRight(t, "actor A(n) { let x = spawn A(1); let y = spawn A(x); become A({x, y}) } main A(1)")
}

// P14.1: what is in scope in all that stands in a body's end, and what is not any more behind it.
func TestScopes(t *testing.T) {
	for _, src := range []string{
		"actor A(p) { let x = p; if x { out {p, x}; stop } else { out {p, x}; stop } } main A(1)",
		"actor A(p) { let x = p; receive { y when {p, x, y} == 1 { out {p, x, y}; stop } {z} when z { out {x, z}; stop } after 1 { out {p, x}; stop } } } main A(1)",
		"actor A() { if 1 { let x = 1; stop } else { let x = 2; out x; stop } } main A()",
		"actor A() { if 1 { receive { x { stop } } } else { let x = spawn A(); stop } } main A()",
		"actor A() { receive { x { let y = x; stop } y { let x = y; stop } after 1 { let x = 1; let y = 2; stop } } } main A()",
		"actor A() { receive { {a, {b, c}} { if a { receive { d { out {a, b, c, d}; stop } } } else { let d = c; out {a, b, c, d}; stop } } } } main A()",
	} {
		isRight(t, src)
	}
	for src, at := range map[string]int{
		"actor A() { if 1 { let x = 1; stop } else { out x; stop } } main A()":                                    48,
		"actor A() { receive { n { out n; stop } after 1 { out n; stop } } } main A()":                            54,
		"actor A() { receive { n { let m = n; stop } after 1 { out m; stop } } } main A()":                        58,
		"actor A() { receive { n { stop } m when n { stop } } } main A()":                                         40,
		"actor A() { receive { n { stop } m { out n; stop } } } main A()":                                         41,
		"actor A() { receive { n { let k = 1; stop } m { out k; stop } } } main A()":                              52,
		"actor A() { receive { n when m { stop } m { stop } } } main A()":                                         29,
		"actor A() { if 1 { receive { n { stop } } } else { out n; stop } } main A()":                             55,
		"actor A() { receive { _ { if 1 { let x = 1; stop } else { stop } } after 0 { out x; stop } } } main A()": 81,
	} {
		isTold(t, src, at, api.ErrName)
	}
}

// P14.1: actors that there are not, and ones of another number of Params.
func TestActors(t *testing.T) {
	for src, at := range map[string]int{
		"actor A() { become B() } main A()":                              12,
		"actor A() { out 1; become a() } main A()":                       19,
		"actor A() { let x = spawn B(); stop } main A()":                 12,
		"actor A(x) { let y = spawn x(); stop } main A(1)":               13,
		"actor A() { stop } main B()":                                    24,
		"actor A() { stop } main AA()":                                   24,
		"actor AA() { stop } main A()":                                   25,
		"actor A() { receive { x { become x() } } } main A()":            26,
		"actor A() { if 1 { become A() } else { become B() } } main A()": 39,
	} {
		isTold(t, src, at, api.ErrName)
	}
	for src, at := range map[string]int{
		"actor A(x) { become A() } main A(1)":                                  13,
		"actor A(x) { become A(1, 2) } main A(1)":                              13,
		"actor A() { become A(1) } main A()":                                   12,
		"actor A() { let x = spawn A(1); stop } main A()":                      12,
		"actor A(x) { let y = spawn A(); stop } main A(1)":                     13,
		"actor A(x) { let y = spawn B(1); stop } actor B() { stop } main A(1)": 13,
		"actor A() { stop } main A(1)":                                         24,
		"actor A(x, y) { stop } main A(1)":                                     28,
		"actor A(x) { stop } main A()":                                         25,
		"actor A(a, b, c, d, e, f, g, h) { stop } main A(1, 2, 3, 4, 5, 6, 7)": 46,
		"actor A() { receive { after 0 { become A(1) } } } main A()":           32,
	} {
		isTold(t, src, at, api.ErrArity)
	}
}

// P14.1: of two things that are wrong the first one is told.
func TestFirst(t *testing.T) {
	for src, want := range map[string]fault{
		// Args, then the Actor, then the Name.
		"actor A(x) { let x = spawn B(y); stop } main A(1)":    {29, api.ErrName},
		"actor A(x) { let x = spawn A(1, y); stop } main A(1)": {32, api.ErrName},
		"actor A(x) { let x = spawn B(1); stop } main A(1)":    {13, api.ErrName},
		"actor A(x) { let x = spawn A(); stop } main A(1)":     {13, api.ErrArity},
		"actor A(x) { let x = y; stop } main A(1)":             {21, api.ErrName},
		"actor A(x) { become B(y) } main A(1)":                 {22, api.ErrName},
		"actor A(x) { become A(x, y) } main A(1)":              {25, api.ErrName},
		"actor A() { stop } main B(y)":                         {26, api.ErrName},
		"actor A() { stop } main A(y)":                         {26, api.ErrName},
		// Statements, from the first one on, then the end.
		"actor A(x) { out y; let x = 1; stop } main A(1)":               {17, api.ErrName},
		"actor A(x) { let x = 1; out y; stop } main A(1)":               {13, api.ErrTwice},
		"actor A(x) { let z = spawn A(); out y; become B() } main A(1)": {13, api.ErrArity},
		"actor A(x) { let x = 1; become B() } main A(1)":                {13, api.ErrTwice},
		// Args from left to right, each from its root down.
		"actor A() { send {1, y}, z; stop } main A()":                      {21, api.ErrName},
		"actor A() { out {(1 + y) * z, w}; stop } main A()":                {22, api.ErrName},
		"actor A() { if y { out z; stop } else { stop } } main A()":        {15, api.ErrName},
		"actor A() { if 1 { out z; stop } else { out y; stop } } main A()": {23, api.ErrName},
		// Arms, in order, ahead of the Parts: the Pattern, the Guard, the Body.
		"actor A(x) { receive { x when y { out z; stop } after 1 { out w; stop } } } main A(1)": {23, api.ErrTwice},
		"actor A(x) { receive { _ when y { out z; stop } x { stop } } } main A(1)":              {30, api.ErrName},
		"actor A(x) { receive { _ { out z; stop } x { stop } } } main A(1)":                     {31, api.ErrName},
		"actor A(x) { receive { _ { stop } x { stop } after 1 { out w; stop } } } main A(1)":    {34, api.ErrTwice},
		"actor A(x) { receive { {n, n, x} { stop } } } main A(1)":                               {27, api.ErrTwice},
		"actor A(x) { receive { {n, x, n} { stop } } } main A(1)":                               {27, api.ErrTwice},
		// Def by Def, Main last.
		"actor A() { stop } actor B() { out x; stop } main C(y)":       {35, api.ErrName},
		"actor A() { out x; stop } actor B() { out y; stop } main A()": {16, api.ErrName},
		"actor A() { become A(1) } actor B() { out y; stop } main A()": {12, api.ErrArity},
		"actor A(x, x) { out y; stop } actor A() { stop } main B(z)":   {0, api.ErrTwice},
	} {
		isTold(t, src, want.at, want.e)
	}
}

// P14.1: the place is the part's At, whatever that is.
func TestPlaceIsTheAt(t *testing.T) {
	for _, at := range []int{0, -1, 1 << 40, -1 << 62} {
		stop := api.Body{Kind: api.EndStop}
		ofBody := func(b api.Body) api.Program {
			return api.Program{Defs: []api.Def{{Name: "A", Body: b, At: 1}}, Main: "A", At: 2}
		}
		unknown := api.Expr{Kind: api.ExprVar, At: at, Name: "y"}
		bound := api.Pattern{Kind: api.PatVar, Name: "n", At: 4}
		again := bound
		again.At = at
		for i, c := range []struct {
			p api.Program
			e api.Errno
		}{
			{api.Program{Defs: []api.Def{{Name: "A", At: at, Params: []string{"x", "x"}, Body: stop}}, Main: "A"}, api.ErrTwice},
			{api.Program{Defs: []api.Def{{Name: "A", At: 1, Body: stop}, {Name: "A", At: at, Body: stop}}, Main: "A"}, api.ErrTwice},
			{api.Program{Defs: []api.Def{{Name: "A", At: 1, Body: stop}}, Main: "B", At: at}, api.ErrName},
			{api.Program{Defs: []api.Def{{Name: "A", At: 1, Params: []string{"x"}, Body: stop}}, Main: "A", At: at}, api.ErrArity},
			{api.Program{Defs: []api.Def{{Name: "A", At: 1, Body: stop}}, Main: "B", At: 2, Args: []api.Expr{{Kind: api.ExprTuple, At: 3, Args: []api.Expr{unknown}}}}, api.ErrName},
			{ofBody(api.Body{Kind: api.EndBecome, Actor: "B", At: at}), api.ErrName},
			{ofBody(api.Body{Kind: api.EndBecome, Actor: "A", At: at, Args: []api.Expr{{Kind: api.ExprSelf, At: 8}}}), api.ErrArity},
			{ofBody(api.Body{Kind: api.EndStop, At: 5, Stmts: []api.Stmt{{Kind: api.StmtSpawn, Name: "x", Actor: "B", At: at}}}), api.ErrName},
			{ofBody(api.Body{Kind: api.EndStop, At: 5, Stmts: []api.Stmt{{Kind: api.StmtSpawn, Name: "x", Actor: "A", At: 6}, {Kind: api.StmtSpawn, Name: "x", Actor: "A", At: at}}}), api.ErrTwice},
			{ofBody(api.Body{Kind: api.EndReceive, At: 5, Arms: []api.Arm{{Pattern: api.Pattern{Kind: api.PatTuple, At: 3, Args: []api.Pattern{bound, again}}, Body: stop}}}), api.ErrTwice},
			{ofBody(api.Body{Kind: api.EndReceive, At: 5, Arms: []api.Arm{{Pattern: bound, Guard: []api.Expr{unknown}, Body: stop}}}), api.ErrName},
		} {
			if n, e := scope.Check(c.p); n != at || e != c.e {
				t.Errorf("%d: %d at %d, not %d at %d", i, int(e), n, int(c.e), at)
			}
		}
	}
}

// P14.1: thrown programs with some names other ones, held against the second telling.
func TestCheckPlainly(t *testing.T) {
	told := map[api.Errno]int{}
	for _, slip := range []int{0, 3, 20, 60, 200} {
		for _, p := range thrown(row(slip), 600, slip) {
			at, e := scope.Check(p)
			told[e]++
			want := fault{0, api.OK}
			if l := faultsOf(p); len(l) > 0 {
				want = l[0]
			}
			if (fault{at, e}) != want {
				t.Fatalf("%d at %d, not %d at %d: %s", int(e), at, int(want.e), want.at, tree.Print(p))
			}
			if slip == 0 && e != api.OK {
				t.Fatal(tree.Print(p))
			}
		}
	}
	for _, e := range []api.Errno{api.OK, api.ErrName, api.ErrArity, api.ErrTwice} {
		if told[e] < 100 {
			t.Errorf("%d: %d", int(e), told[e])
		}
	}
}

// P14.1: programs as great as may be.
func TestGreatPrograms(t *testing.T) {
	var names []string
	for a := 'a'; a <= 'z'; a++ {
		for b := 'a'; b <= 'z'; b++ {
			names = append(names, "v"+string(a)+string(b))
		}
	}
	var b strings.Builder
	b.WriteString("actor A() { ")
	for i, n := range names {
		last := names[max(0, i-1)]
		if i == 0 {
			last = "1"
		}
		b.WriteString("let " + n + " = " + last + "; ")
	}
	src := b.String()
	isRight(t, src+"stop } main A()")
	isTold(t, src+"let vaa = vzz; stop } main A()", len(src), api.ErrTwice)
	isTold(t, src+"let vzz = vaa; stop } main A()", len(src), api.ErrTwice)
	isTold(t, src+"let x = {vzz, vab, y}; stop } main A()", len(src)+19, api.ErrName)
	arms := src + "receive { "
	for range 400 {
		arms += "x { out {x, vzz}; stop } "
	}
	isRight(t, arms+"} } main A()")
	isTold(t, arms+"after 1 { out x; stop } } } main A()", len(arms)+14, api.ErrName)
	// As deep as may be: 62 bodies, a tuple, and what is in it.
	deep := "actor A(x0) { "
	ends := ""
	for i := range 61 {
		n := "x" + strings.Repeat("1", i%31+1)
		if i >= 31 {
			n = "y" + strings.Repeat("1", i%31+1)
		}
		deep += "receive { " + n + " { "
		ends += " } }"
	}
	isRight(t, deep+"out {x0, x1, y1, x1111}; stop }"+ends+" main A(1)")
	isTold(t, deep+"out {x0, x1, z}; stop }"+ends+" main A(1)", len(deep)+13, api.ErrName)
	isTold(t, deep+"let x1 = x0; stop }"+ends+" main A(1)", len(deep), api.ErrTwice)
}

// P14.1, P14.2: a tree that is asked stays as it is, and what is told is the same each time.
func TestNothingChanges(t *testing.T) {
	same := func(_ string, _ int64, _, s string) string { return s }
	for _, p := range thrown(5, 200, 100) {
		was := altered(p, same)
		at, e := scope.Check(p)
		l := scope.Atoms(p)
		if !reflect.DeepEqual(altered(p, same), was) {
			t.Fatal(tree.Print(was))
		}
		for i := range l {
			l[i] = "?"
		}
		if n, f := scope.Check(p); n != at || f != e || slices.Contains(scope.Atoms(p), "?") {
			t.Fatal(tree.Print(was))
		}
	}
}
