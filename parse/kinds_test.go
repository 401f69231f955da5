package parse_test

import (
	"fmt"
	"strings"
	"testing"

	"postbag/api"
	"postbag/parse"
	"postbag/tree"
)

func number(at, n int) api.Expr { return api.Expr{Kind: api.ExprInt, At: at, N: n} }

func variable(at int, name string) api.Expr {
	return api.Expr{Kind: api.ExprVar, At: at, Name: name}
}

func reckon(a api.Expr, sign string, b api.Expr) api.Expr {
	return api.Expr{Kind: api.ExprBin, At: a.At, Name: sign, Args: []api.Expr{a, b}}
}

// isTree holds what is parsed of an expression against a tree, with its places.
func isTree(t *testing.T, src string, want api.Expr) {
	t.Helper()
	if x := isExpr(t, src); !alike(x, want) {
		t.Errorf("%q: %+v, not %+v", src, x, want)
	}
}

// isText holds what is parsed of a program against the text of its tree.
func isText(t *testing.T, src, want string) {
	t.Helper()
	if s := tree.Print(isProgram(t, src)); s != want {
		t.Errorf("%q: %q, not %q", src, s, want)
	}
}

// P13.2: the chapter's examples.
func TestExample(t *testing.T) {
	sum := reckon(number(0, 1), "+", reckon(number(4, 2), "*", number(8, 3)))
	isTree(t, "1 + 2 * 3 < x", reckon(sum, "<", variable(12, "x")))
	isNoExpr(t, "f(", 1, api.ErrSyntax)
}

// P13.1: the examples of the whole.
func TestExamplesOfTheWhole(t *testing.T) {
	for src, want := range map[string]string{
		"actor A() { out 1 + 2 * 3; stop } main A()":                                                  "actor A() { out (1 + (2 * 3)); stop }\nmain A()\n",
		"actor A(n) { out n; if n < 2 { become A(n + 1) } else { stop } } main A(0)":                  "actor A(n) { out n; if (n < 2) { become A((n + 1)) } else { stop } }\nmain A(0)\n",
		"actor A() { send self, 5; send self, 6; receive { x when 5 < x { out x; stop } } } main A()": "actor A() { send self, 5; send self, 6; receive { x when (5 < x) { out x; stop } } }\nmain A()\n",
		"actor A() { receive { x { stop } after 3 { out 'late; stop } } } main A()":                   "actor A() { receive { x { stop } after 3 { out 'late; stop } } }\nmain A()\n",
		"actor A(x) { become A({x, x}) } main A(0)":                                                   "actor A(x) { become A({x, x}) }\nmain A(0)\n",
		"actor A() { let a = spawn A(); stop } main A()":                                              "actor A() { let a = spawn A(); stop }\nmain A()\n",
		"actor A() { out x; stop } main A()":                                                          "actor A() { out x; stop }\nmain A()\n",
	} {
		isText(t, src, want)
	}
	isWrong(t, "actor A() { out ?; stop }", 16, api.ErrLex)
}

// P13.1, P13.2: no words at all.
func TestNoWords(t *testing.T) {
	for _, src := range []string{"", " ", "\n", "# actor A() { stop } main A()", "#\n\t \r\n"} {
		isWrong(t, src, len(src), api.ErrSyntax)
		isNoExpr(t, src, len(src), api.ErrSyntax)
	}
	if _, at, e := parse.Program(nil); at != 0 || e != api.ErrSyntax {
		t.Error(at, int(e))
	}
	if _, at, e := parse.Expr(nil); at != 0 || e != api.ErrSyntax {
		t.Error(at, int(e))
	}
}

// P13.1, P13.2: what lex refuses is told as lex tells it, wherever the grammar is broken ahead of it.
func TestLexRefuses(t *testing.T) {
	for src, at := range map[string]int{
		"?": 0, "actor ?": 6, ") ) ) ?": 6, "'": 0, "1 + 'self": 4, "x 'after": 2, "'_": 0, "1 2305843009213693952": 2, "x é": 2,
		"a " + strings.Repeat("b", 33): 2, "{ 99999999999999999999999999": 2, "1 > 2": 2, "1 / 2": 2, "a.b": 1, "\"": 0,
	} {
		isWrong(t, src, at, api.ErrLex)
		isNoExpr(t, src, at, api.ErrLex)
	}
}

// P13.1: each kind of statement, of end and of expression.
func TestEachKind(t *testing.T) {
	for _, s := range []string{"let x = 1;", "let x = y;", "let x = spawn B();", "let x = spawn B(1);", "let x = spawn B(x, {y}, 'z, self);", "send x, y;", "send self, {'a, 1};", "out x;", "out 'a;", "out 1; out 2;", "let a = 1; let b = a; send b, a; out a;"} {
		src := "actor A() { " + s + " stop }\nmain A()\n"
		isText(t, src, src)
	}
	for _, s := range []string{"become A()", "become B(x)", "become B(1, 2, 3)", "stop", "if x { stop } else { become A() }", "if 1 { out 1; stop } else { if 2 { stop } else { stop } }", "receive { x { stop } }", "receive { _ when x { stop } _ { stop } 'a { stop } }", "receive { after 0 { stop } }", "receive { x { stop } after 7 { out x; stop } }", "receive { x when y { receive { after 1 { stop } } } {x, y} { become A(x, y) } after 7 { stop } }"} {
		src := "actor A() { " + s + " }\nmain A()\n"
		isText(t, src, src)
	}
	for _, s := range []string{"0", "12", "'a", "x", "self", "{1}", "{1, 2}", "{a, b, c, d}", "{{{self}}}", "(a + b)", "(a - b)", "(a * b)", "(a < b)", "(a == b)", "({1, 'a} == {x})"} {
		src := "actor A() { stop }\nmain A(" + s + ")\n"
		isText(t, src, src)
		src = "actor A() { out " + s + "; stop }\nmain A()\n"
		isText(t, src, src)
		if x := isExpr(t, s); tree.Print(api.Program{Defs: isProgram(t, src).Defs, Main: "A", Args: []api.Expr{x}}) != "actor A() { out "+s+"; stop }\nmain A("+s+")\n" {
			t.Error(s)
		}
	}
	for _, s := range []string{"actor A() { stop }\n", "actor A(x) { stop }\nactor B(y, z) { stop }\n", "actor A(a, b, c) { stop }\nactor A() { stop }\nactor A() { stop }\n"} {
		isText(t, s+"main Z()\n", s+"main Z()\n")
	}
}

// P13.1: each kind of pattern, with its fields.
func TestPatterns(t *testing.T) {
	x := api.Pattern{Kind: api.PatVar, Name: "x"}
	for src, want := range map[string]api.Pattern{
		"_": {Kind: api.PatAny}, "x": x, "'a": {Kind: api.PatAtom, Name: "a"}, "0": {Kind: api.PatInt}, "5": {Kind: api.PatInt, N: 5},
		"-5": {Kind: api.PatInt, N: -5}, "- 5": {Kind: api.PatInt, N: -5}, "-0": {Kind: api.PatInt}, "-\n#\n5": {Kind: api.PatInt, N: -5},
		"2305843009213693951": {Kind: api.PatInt, N: api.MaxInt}, "-2305843009213693951": {Kind: api.PatInt, N: -api.MaxInt},
		"{x}": {Kind: api.PatTuple, Args: []api.Pattern{x}}, "{x,-1,_,{x}}": {Kind: api.PatTuple, Args: []api.Pattern{x, {Kind: api.PatInt, N: -1}, {Kind: api.PatAny}, {Kind: api.PatTuple, Args: []api.Pattern{x}}}},
	} {
		p := isProgram(t, "actor A() { receive { "+src+" { stop } } } main A()").Defs[0]
		p.Body.Arms[0].Body.At = 0
		if !tree.Same(api.Program{Defs: []api.Def{p}}, api.Program{Defs: []api.Def{{Name: "A", Body: api.Body{Kind: api.EndReceive, Arms: []api.Arm{{Pattern: want, Body: api.Body{Kind: api.EndStop}}}}}}}) {
			t.Errorf("%q: %+v", src, p)
		}
	}
}

// P13.1: - stands ahead of an Int of a pattern alone.
func TestMinus(t *testing.T) {
	for src, at := range map[string]int{"- x": 2, "-'a": 1, "-{1}": 1, "- -1": 2, "-_": 1, "-self": 1, "- {": 2, "-;": 1, "+1": 0, "1 - 1": 2, "{-x}": 2, "{-}": 2, "-(1)": 1} {
		isWrong(t, "actor A() { receive { "+src+" { stop } } } main A()", 22+at, api.ErrSyntax)
	}
	for src, at := range map[string]int{"-1": 0, "1 + -1": 4, "{-1}": 1, "(-1)": 1, "1 * -x": 4, "x == -1": 5, "- 1": 0, "1 - - 1": 4} {
		isNoExpr(t, src, at, api.ErrSyntax)
	}
	isWrong(t, "actor A() { receive { after -1 { stop } } } main A()", 28, api.ErrSyntax)
}

// P13.1, P13.2: numbers at their ends.
func TestNumbers(t *testing.T) {
	for src, n := range map[string]int{"0": 0, "00": 0, "7": 7, "007": 7, "2305843009213693950": api.MaxInt - 1, "2305843009213693951": api.MaxInt, "0002305843009213693951": api.MaxInt} {
		isTree(t, src, number(0, n))
		b := isProgram(t, "actor A() { receive { after "+src+" { stop } } } main A("+src+")")
		if b.Defs[0].Body.After != n || b.Args[0].N != n {
			t.Error(src)
		}
	}
	for _, src := range []string{"2305843009213693952", "9223372036854775808", "18446744073709551616"} {
		isNoExpr(t, src, 0, api.ErrLex)
		isWrong(t, "actor A() { receive { after "+src+" { stop } } } main A()", 28, api.ErrLex)
		isWrong(t, "actor A() { receive { -"+src+" { stop } } } main A()", 23, api.ErrLex)
	}
}

// P13.2: signs bind to the left, * ahead of + and -, these ahead of < and ==.
func TestBinding(t *testing.T) {
	for src, want := range map[string]string{
		"1 - 2 - 3": "((1 - 2) - 3)", "1 + 2 - 3 + 4": "(((1 + 2) - 3) + 4)", "1 * 2 * 3": "((1 * 2) * 3)", "1 - (2 - 3)": "(1 - (2 - 3))",
		"1 * 2 + 3": "((1 * 2) + 3)", "1 + 2 * 3": "(1 + (2 * 3))", "(1 + 2) * 3": "((1 + 2) * 3)", "1 * (2 + 3)": "(1 * (2 + 3))",
		"1 * 2 - 3 * 4": "((1 * 2) - (3 * 4))", "1 - 2 * 3 - 4": "((1 - (2 * 3)) - 4)", "1 < 2": "(1 < 2)", "1 == 2": "(1 == 2)",
		"1 + 2 < 3 * 4": "((1 + 2) < (3 * 4))", "1 * 2 == 3 - 4": "((1 * 2) == (3 - 4))", "(1 < 2) < 3": "((1 < 2) < 3)", "1 < (2 == 3)": "(1 < (2 == 3))",
		"(1 < 2) == (3 < 4)": "((1 < 2) == (3 < 4))", "{1 < 2, 3 == 4}": "{(1 < 2), (3 == 4)}", "((((1))))": "1", "((1) + ((2)))": "(1 + 2)", "1 + (2 < 3)": "(1 + (2 < 3))",
	} {
		isText(t, "actor A() { stop } main A("+src+")", "actor A() { stop }\nmain A("+want+")\n")
	}
	for src, at := range map[string]int{"1 < 2 < 3": 6, "1 == 2 == 3": 7, "1 < 2 == 3": 6, "1 == 2 < 3": 7, "1 + 2 < 3 + 4 < 5": 14, "(1 < 2 < 3)": 7, "{1 < 2 < 3}": 7, "1 < < 2": 4, "1 + + 2": 4, "1 * * 2": 4, "1 = 2": 2, "< 1": 0, "1 <": 3, "1 +": 3, "1 -\n": 4, "* 1": 0} {
		isNoExpr(t, src, at, api.ErrSyntax)
	}
}

// P13.1: a Name that a keyword spells is none, an atom that one spells is no word.
func TestKeywords(t *testing.T) {
	for _, k := range []string{"actor", "main", "let", "spawn", "send", "out", "become", "stop", "if", "else", "receive", "when", "after", "self", "_"} {
		isWrong(t, "actor "+k+"() { stop } main A()", 6, api.ErrSyntax)
		isWrong(t, "actor A("+k+") { stop } main A()", 8, api.ErrSyntax)
		isWrong(t, "actor A(x, "+k+") { stop } main A()", 11, api.ErrSyntax)
		isWrong(t, "actor A() { let "+k+" = 1; stop } main A()", 16, api.ErrSyntax)
		isWrong(t, "actor A() { let x = spawn "+k+"(); stop } main A()", 26, api.ErrSyntax)
		isWrong(t, "actor A() { become "+k+"() } main A()", 19, api.ErrSyntax)
		isWrong(t, "actor A() { stop } main "+k+"()", 24, api.ErrSyntax)
		isWrong(t, "actor A() { out '"+k+"; stop } main A()", 16, api.ErrLex)
		isWrong(t, "actor A() { receive { '"+k+" { stop } } } main A()", 22, api.ErrLex)
		if k != "self" {
			isWrong(t, "actor A() { out "+k+"; stop } main A()", 16, api.ErrSyntax)
			isNoExpr(t, k, 0, api.ErrSyntax)
		}
		if k != "_" && k != "after" {
			isWrong(t, "actor A() { receive { "+k+" { stop } } } main A()", 22, api.ErrSyntax)
			isWrong(t, "actor A() { receive { {"+k+"} { stop } } } main A()", 23, api.ErrSyntax)
		}
		// What begins as one, or ends as one, is a name.
		for _, n := range []string{k + "1", k + "_", "x" + k} {
			isText(t, "actor "+n+"("+n+") { let "+n+" = "+n+"; become "+n+"('"+n+") } main "+n+"()", "actor "+n+"("+n+") { let "+n+" = "+n+"; become "+n+"('"+n+") }\nmain "+n+"()\n")
		}
	}
}

// P13.1: a receive without an Arm needs an after, and after stands last.
func TestReceiveWithoutArms(t *testing.T) {
	isWrong(t, "actor A() { receive { } } main A()", 22, api.ErrSyntax)
	isWrong(t, "actor A() { receive {} } main A()", 21, api.ErrSyntax)
	isText(t, "actor A() { receive { after 0 { stop } } } main A()", "actor A() { receive { after 0 { stop } } }\nmain A()\n")
	isWrong(t, "actor A() { receive { after 0 { stop } after 0 { stop } } } main A()", 39, api.ErrSyntax)
	isWrong(t, "actor A() { receive { after 0 { stop } x { stop } } } main A()", 39, api.ErrSyntax)
	isWrong(t, "actor A() { receive { after x { stop } } } main A()", 28, api.ErrSyntax)
	isWrong(t, "actor A() { receive { after { stop } } } main A()", 28, api.ErrSyntax)
	isWrong(t, "actor A() { receive { after 1 + 1 { stop } } } main A()", 30, api.ErrSyntax)
	isWrong(t, "actor A() { receive { x when { stop } } } main A()", 31, api.ErrSyntax)
	isWrong(t, "actor A() { receive { x when 1 when 2 { stop } } } main A()", 31, api.ErrSyntax)
	isWrong(t, "actor A() { receive { x, y { stop } } } main A()", 23, api.ErrSyntax)
	isWrong(t, "actor A() { receive { x } } main A()", 24, api.ErrSyntax)
	isWrong(t, "actor A() { receive { when 1 { stop } } } main A()", 22, api.ErrSyntax)
}

// listed is parts with commas between them.
func listed(n int, part string) string { return strings.TrimSuffix(strings.Repeat(part+",", n), ",") }

// P13.1: as many Names, Exprs and parts as may be, and one more, whose comma is wrong.
func TestHowMany(t *testing.T) {
	for n := range 12 {
		names := ""
		for i := range n {
			names += fmt.Sprintf(",p%d", i)
		}
		names = strings.TrimPrefix(names, ",")
		for _, c := range []struct {
			ahead, list, behind string
			least, most         int
		}{
			{"actor A(", names, ") { stop } main A()", 0, 8},
			{"actor A() { let x = spawn A(", listed(n, "x"), "); stop } main A()", 0, 8},
			{"actor A() { become A(", listed(n, "1"), ") } main A()", 0, 8},
			{"actor A() { stop } main A(", listed(n, "'a"), ")", 0, 8},
			{"actor A() { out {", listed(n, "x"), "}; stop } main A()", 1, 4},
			{"actor A() { stop } main A({", listed(n, "{1}"), "})", 1, 4},
			{"actor A() { receive { {", listed(n, "x"), "} { stop } } } main A()", 1, 4},
			{"actor A() { receive { {-1,{", listed(n, "_"), "}} { stop } } } main A()", 1, 4},
			{"actor A() { receive { x when x == {", listed(n, "(1)"), "} { stop } } } main A()", 1, 4},
			{"actor A() { out (", listed(n, "x"), "); stop } main A()", 1, 1},
			{"actor A() { send self,", listed(n, "x"), "; stop } main A()", 1, 1},
			{"actor A() { out ", listed(n, "x"), "; stop } main A()", 1, 1},
		} {
			src := c.ahead + c.list + c.behind
			parts := max(1, n)
			size := (len(c.list) + 1) / parts // of a part and its comma
			switch {
			case n < c.least:
				isWrong(t, src, len(c.ahead), api.ErrSyntax)
			case n > c.most:
				isWrong(t, src, len(c.ahead)+size*c.most-1, api.ErrSyntax)
			default:
				isProgram(t, src)
			}
			isWrong(t, c.ahead+","+c.list+c.behind, len(c.ahead), api.ErrSyntax)
			if n > 0 && n < c.most {
				isWrong(t, c.ahead+c.list+","+c.behind, len(c.ahead+c.list)+1, api.ErrSyntax)
			}
		}
	}
}

// P13.1: up to 64 Defs may be; more are words of the grammar, but no tree that may be.
func TestDefs(t *testing.T) {
	for _, n := range []int{0, 1, 2, 63, 64, 65, 66, 200, 1000} {
		src := strings.Repeat("actor A() { stop } ", n) + "main A()"
		switch {
		case n < 1 || n > 64:
			isWrong(t, src, 0, api.ErrSyntax)
		default:
			if p := isProgram(t, src); len(p.Defs) != n {
				t.Error(n)
			}
		}
	}
	isWrong(t, strings.Repeat("actor A() { stop } ", 65)+"main A(", 65*19+7, api.ErrSyntax)
}
