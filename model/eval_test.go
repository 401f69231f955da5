package model_test

import (
	"testing"

	"postbag/api"
	"postbag/model"
	"postbag/value"
)

// P16.1: the value of each kind of expression.
func TestEval(t *testing.T) {
	names := []string{"x", "y", "z", "x"}
	values := []api.Value{integer(1), atom(2), tuple(integer(3)), integer(4)}
	atoms := []string{"a", "b", "c", "b"}
	for src, want := range map[string]string{
		"0":                           "0",
		"7":                           "7",
		"2305843009213693951":         "2305843009213693951",
		"'a":                          "a0",
		"'c":                          "a2",
		"'b":                          "a3", // the last place
		"'d":                          "0",
		"y":                           "a2",
		"z":                           "{3}",
		"x":                           "4", // the last one
		"w":                           "0",
		"self":                        "p9",
		"{1}":                         "{1}",
		"{x, {y, 'a}, self, z}":       "{4,{a2,a0},p9,{3}}",
		"{w, 'd}":                     "{0,0}",
		"1 + 2 * 3":                   "7",
		"x - 5":                       "-1",
		"2305843009213693951 + 1":     "-2305843009213693952",
		"x < 5":                       "1",
		"5 < x":                       "0",
		"y + 3":                       "3",
		"z * 3":                       "0",
		"'b - 1":                      "-1",
		"self < 1":                    "1",
		"'a == 'a":                    "1",
		"'a == 'b":                    "0",
		"self == self":                "1",
		"self == 9":                   "0",
		"y == 'c":                     "1",
		"z == z":                      "0",
		"{1} == {1}":                  "0",
		"'d == 0":                     "1",
		"{x == 4, x + x} == 1":        "0",
		"{{{x + 1}, x * 2}, (3 - 4)}": "{{{5},8},-1}",
	} {
		if s := value.Text(model.Eval(expr(t, src), names, values, atoms, 9)); s != want {
			t.Errorf("%s: %s, not %s", src, s, want)
		}
	}
}

func isValue(t *testing.T, what string, v api.Value, want string) {
	t.Helper()
	if s := value.Text(v); s != want {
		t.Errorf("%s: %s, not %s", what, s, want)
	}
}

// P16.1: what is not there is the integer 0; trees of any shape.
func TestEvalOdd(t *testing.T) {
	eval := func(e api.Expr) api.Value { return model.Eval(e, []string{"x"}, integers(5), []string{"a"}, -3) }
	bin := func(sign string, args ...api.Expr) api.Expr {
		return api.Expr{Kind: api.ExprBin, Name: sign, Args: args}
	}
	number := func(n int) api.Expr { return api.Expr{Kind: api.ExprInt, N: n} }
	for what, x := range map[string]struct {
		e    api.Expr
		want string
	}{
		"no kind":                    {api.Expr{}, "0"},
		"a kind below":               {api.Expr{Kind: -1, N: 4, Name: "x"}, "0"},
		"a kind above":               {api.Expr{Kind: 7, N: 4, Name: "x", Args: []api.Expr{number(1)}}, "0"},
		"an integer above":           {number(1 << 61), "-2305843009213693952"},
		"an integer below 0":         {number(-7), "-7"},
		"the least integer":          {number(-1 << 63), "0"},
		"a sign without parts":       {bin("+"), "0"},
		"== without parts":           {bin("=="), "1"},
		"< of one part":              {bin("<", number(-1)), "1"},
		"- of one part":              {bin("-", number(4)), "4"},
		"- of three parts":           {bin("-", number(4), number(1), number(9)), "3"},
		"another sign":               {bin("/", number(4), number(2)), "0"},
		"no sign":                    {bin("", number(4), number(2)), "0"},
		"a tuple of none":            {api.Expr{Kind: api.ExprTuple}, "{}"},
		"a tuple of five":            {api.Expr{Kind: api.ExprTuple, Args: []api.Expr{number(1), number(2), number(3), number(4), {}}}, "{1,2,3,4,0}"},
		"a variable with N and Args": {api.Expr{Kind: api.ExprVar, N: 3, Name: "x", Args: []api.Expr{number(1)}}, "5"},
		"an actor of a number":       {api.Expr{Kind: api.ExprSelf, N: 3, Name: "x"}, "p-3"},
	} {
		isValue(t, what, eval(x.e), x.want)
		if v := eval(x.e); v.Kind != api.ValTuple && len(v.Args) > 0 {
			t.Errorf("%s: with parts", what)
		}
	}
}

// P16.1: values and names of unlike lengths, and none.
func TestEvalLengths(t *testing.T) {
	x := expr(t, "x")
	isValue(t, "fewer values", model.Eval(x, []string{"y", "x"}, integers(1), nil, 0), "0")
	isValue(t, "its last place has no value", model.Eval(x, []string{"x", "x"}, integers(1), nil, 0), "0")
	isValue(t, "more values", model.Eval(x, []string{"x"}, integers(1, 2), nil, 0), "1")
	isValue(t, "no values", model.Eval(x, []string{"x"}, nil, nil, 0), "0")
	isValue(t, "no names", model.Eval(x, nil, integers(1), nil, 0), "0")
	isValue(t, "no atoms", model.Eval(expr(t, "'x"), []string{"x"}, integers(1), nil, 0), "0")
	isValue(t, "an empty name", model.Eval(api.Expr{Kind: api.ExprVar}, []string{"x", ""}, integers(1, 2), nil, 0), "2")
	// What lies behind the lists' lengths is not there.
	values := integers(1, 2)
	isValue(t, "behind the values", model.Eval(x, []string{"y", "x"}, values[:1], nil, 0), "0")
}

// P16.1: expressions that share lists are reckoned, though they are far greater than their memory; and deep ones.
func TestEvalShared(t *testing.T) {
	e, deep := expr(t, "x"), expr(t, "x")
	for range 62 {
		e = api.Expr{Kind: api.ExprBin, Name: "+", Args: []api.Expr{e, e}}
	}
	for range 1 << 16 {
		deep = api.Expr{Kind: api.ExprTuple, Args: []api.Expr{deep}}
	}
	isValue(t, "sums of sums", model.Eval(e, []string{"x"}, integers(5), nil, 0), "0")
	e = api.Expr{Kind: api.ExprBin, Name: "-", Args: []api.Expr{e, expr(t, "{x} + 3")}}
	isValue(t, "less 3", model.Eval(e, []string{"x"}, integers(5), nil, 0), "-3")
	shared := expr(t, "7")
	for range 60 {
		shared = api.Expr{Kind: api.ExprTuple, Args: []api.Expr{shared, shared}}
	}
	v := model.Eval(shared, nil, nil, nil, 0)
	for range 60 {
		if v.Kind != api.ValTuple || len(v.Args) != 2 {
			t.Fatal(v.Kind, len(v.Args))
		}
		v = v.Args[1]
	}
	isValue(t, "the innermost", v, "7")
	if v := model.Eval(deep, []string{"x"}, integers(5), nil, 0); len(value.Text(v)) != 2<<16+1 {
		t.Error("deep")
	}
}

// P16.1: what comes in is not changed.
func TestEvalKeeps(t *testing.T) {
	names, values, atoms := []string{"x", "y"}, []api.Value{tuple(integer(1)), integer(2)}, []string{"a"}
	e := expr(t, "{x, y + 1, 'a, {x}}")
	first := model.Eval(e, names, values, atoms, 4)
	second := model.Eval(e, names, values, atoms, 4)
	if !value.Same(first, second) || value.Text(first) != "{{1},3,a0,{{1}}}" {
		t.Error(value.Text(first), value.Text(second))
	}
	if texts(values) != "{1} 2" || names[0] != "x" || names[1] != "y" || atoms[0] != "a" {
		t.Error(texts(values), names, atoms)
	}
}
