package tree_test

import (
	"testing"

	"postbag/api"
	"postbag/lex"
	"postbag/tree"
)

// P12.1: the chapter's example.
func TestPrintExample(t *testing.T) {
	isText(t, program("A", []api.Expr{number(2)}, def("A", stop(out(reckon(variable("x"), "+", number(1)))), "x")),
		"actor A(x) { out (x + 1); stop }\nmain A(2)\n")
}

// P12.1: the text of each kind of expression.
func TestPrintExpr(t *testing.T) {
	a, b := variable("a"), variable("b")
	for text, e := range map[string]api.Expr{
		"0": number(0), "12": number(12), "2305843009213693951": number(api.MaxInt),
		"'ok": atom("ok"), "x": variable("x"), "_1": variable("_1"), "self": self(),
		"{a}": tuple(a), "{a, b}": tuple(a, b), "{a, 1, 'b, self}": tuple(a, number(1), atom("b"), self()), "{{{a}, b}}": tuple(tuple(tuple(a), b)),
		"(a + b)": reckon(a, "+", b), "(a - b)": reckon(a, "-", b), "(a * b)": reckon(a, "*", b), "(a < b)": reckon(a, "<", b), "(a == b)": reckon(a, "==", b),
		"((a + b) * (b - a))":      reckon(reckon(a, "+", b), "*", reckon(b, "-", a)),
		"(a - (b - a))":            reckon(a, "-", reckon(b, "-", a)),
		"((a - b) - a)":            reckon(reckon(a, "-", b), "-", a),
		"({a, (b < 1)} == 'none)":  reckon(tuple(a, reckon(b, "<", number(1))), "==", atom("none")),
		"{(self + self), (1 * 1)}": tuple(reckon(self(), "+", self()), reckon(number(1), "*", number(1))),
	} {
		isText(t, reckoned(e), "actor A() { stop }\nmain A("+text+")\n")
		isText(t, stated(out(e)), "actor A() { out "+text+"; stop }\nmain A()\n")
	}
}

// P12.1: the text of each kind of pattern.
func TestPrintPattern(t *testing.T) {
	for text, p := range map[string]api.Pattern{
		"_": anything(), "0": isNumber(0), "7": isNumber(7), "-7": isNumber(-7),
		"2305843009213693951": isNumber(api.MaxInt), "-2305843009213693951": isNumber(-api.MaxInt),
		"'ok": isAtom("ok"), "x": binds("x"), "{_}": isTuple(anything()), "{'a, -1, x, _}": isTuple(isAtom("a"), isNumber(-1), binds("x"), anything()),
		"{{x}, {y, {_}}}": isTuple(isTuple(binds("x")), isTuple(binds("y"), isTuple(anything()))),
	} {
		isText(t, matched(p), "actor A() { receive { "+text+" { stop } } }\nmain A()\n")
	}
}

// P12.1: the text of each kind of statement and end, and of bodies of several.
func TestPrintBody(t *testing.T) {
	x, y := variable("x"), variable("y")
	for text, b := range map[string]api.Body{
		"{ stop }":                        stop(),
		"{ let x = y; stop }":             stop(let("x", y)),
		"{ let x = spawn B(); stop }":     stop(spawn("x", "B")),
		"{ let x = spawn B(x, 1); stop }": stop(spawn("x", "B", x, number(1))),
		"{ send x, {y, 'a}; stop }":       stop(send(x, tuple(y, atom("a")))),
		"{ out x; stop }":                 stop(out(x)),
		"{ out x; send self, y; let a = 1; out (a + a); stop }": stop(out(x), send(self(), y), let("a", number(1)), out(reckon(variable("a"), "+", variable("a")))),
		"{ become B() }":                                      become("B"),
		"{ become B(x, (x + y), {y}) }":                       become("B", x, reckon(x, "+", y), tuple(y)),
		"{ if x { stop } else { become A() } }":               either(x, stop(), become("A")),
		"{ if (x < y) { out x; stop } else { out y; stop } }": either(reckon(x, "<", y), stop(out(x)), stop(out(y))),
		"{ if x { if y { stop } else { stop } } else { if 1 { stop } else { stop } } }": either(x, either(y, stop(), stop()), either(number(1), stop(), stop())),
		"{ receive { x { stop } } }":                                                  receive(arm(binds("x"), stop())),
		"{ receive { x when (x < 5) { stop } _ { become A() } } }":                    receive(arm(binds("x"), stop(), reckon(x, "<", number(5))), arm(anything(), become("A"))),
		"{ receive { after 0 { stop } } }":                                            late(0, stop()),
		"{ receive { x { out x; stop } -1 { stop } after 12 { out 'late; stop } } }":  late(12, stop(out(atom("late"))), arm(binds("x"), stop(out(x))), arm(isNumber(-1), stop())),
		"{ receive { after 2305843009213693951 { receive { _ when x { stop } } } } }": late(api.MaxInt, receive(arm(anything(), stop(), x))),
	} {
		isText(t, ended(b), "actor A() "+text+"\nmain A()\n")
	}
	b := either(x, stop(), stop())
	b.Stmts = []api.Stmt{out(x)}
	isText(t, ended(b), "actor A() { out x; if x { stop } else { stop } }\nmain A()\n")
}

// P12.1: the text of Defs, one a line, and of main.
func TestPrintProgram(t *testing.T) {
	isText(t, program("A", nil, def("A", stop())), "actor A() { stop }\nmain A()\n")
	isText(t, program("B", []api.Expr{number(1), self(), tuple(atom("a"))}, def("A", stop(), "x"), def("B", become("A", variable("z")), "x", "y", "z")),
		"actor A(x) { stop }\nactor B(x, y, z) { become A(z) }\nmain B(1, self, {'a})\n")
	// Neither names that are there twice nor ones that are not there count.
	isText(t, program("C", nil, def("A", stop(), "x", "x"), def("A", stop())), "actor A(x, x) { stop }\nactor A() { stop }\nmain C()\n")
}

// P12.1: what may not be has no text.
func TestPrintOfNothing(t *testing.T) {
	for i, p := range []api.Program{{}, reckoned(number(-1)), reckoned(reckon(self(), "/", self())), ended(receive()), ended(api.Body{})} {
		if s := tree.Print(p); s != "" {
			t.Errorf("%d: %q", i, s)
		}
	}
}

// P12.1: held against the second telling, of trees that may be, and of such as are unlike them in one place.
func TestGoodAndPrintPlainly(t *testing.T) {
	r := row(2)
	goods := 0
	for range 1000 {
		p := r.program()
		isText(t, p, programText(p))
		for range 5 {
			q := r.change(p)
			if tree.Good(q) != good(q) {
				t.Fatalf("%t: %s", good(q), spell(q))
			}
			want := ""
			if good(q) {
				want = programText(q)
				goods++
			}
			if s := tree.Print(q); s != want {
				t.Fatalf("%q, not %q", s, want)
			}
		}
	}
	if goods < 500 || goods > 8000 {
		t.Error(goods)
	}
}

// P12.1: a text is words, with nothing else than blanks and line feeds between them.
func TestPrintIsWords(t *testing.T) {
	r := row(3)
	for range 500 {
		p := r.program()
		if words, at, e := lex.Tokens([]byte(tree.Print(p))); e != api.OK || len(words) < 11 {
			t.Fatalf("%q: wrong at %d", tree.Print(p), at)
		}
	}
}

// P12.1: a tree that is asked, and printed, stays as it is.
func TestNothingChanges(t *testing.T) {
	r := row(4)
	for range 300 {
		p := r.program()
		was := spell(p)
		tree.Good(p)
		tree.Print(p)
		tree.Same(p, p)
		tree.Depth(p)
		tree.Size(p)
		if spell(p) != was {
			t.Fatal(was)
		}
	}
}
