package parse_test

import (
	"strings"
	"testing"

	"postbag/api"
	"postbag/tree"
)

// depths are one below MaxDepth, it, one more, and far beyond.
var depths = []int{1, 2, 62, 63, 64, 65, 66, 128, 1000, 9000}

// nested is n brackets of one sort, with something in them.
func nested(n int, open, in, shut string) string {
	return strings.Repeat(open, n) + in + strings.Repeat(shut, n)
}

// P13.2: up to 64 ( ) stand open at a time, and have no depth; the next one is wrong.
func TestRoundBrackets(t *testing.T) {
	for _, n := range depths {
		src := nested(n, "(", "x", ")")
		if n > 64 {
			isNoExpr(t, src, 64, api.ErrSyntax)
			isWrong(t, "actor A() { stop } main A("+src+")", 26+64, api.ErrSyntax)
		} else {
			isTree(t, src, variable(n, "x"))
			isProgram(t, "actor A() { stop } main A("+src+")")
		}
		// One bracket of a body stands open, too.
		if src := "actor A() { out " + src + "; stop } main A()"; n > 63 {
			isWrong(t, src, 16+63, api.ErrSyntax)
		} else {
			isProgram(t, src)
		}
		// Brackets that are shut again do not count.
		if n <= 64 {
			isExpr(t, src+" + "+src+" * "+src)
		}
	}
}

// P13.2: up to 64 tuples stand open at a time; the 64th one, and what is in it, is too deep a tree.
func TestTuples(t *testing.T) {
	for _, n := range depths {
		src := nested(n, "{", "x", "}")
		main := "actor A() { stop } main A(" + src + ")"
		switch {
		case n > 64:
			isNoExpr(t, src, 64, api.ErrSyntax)
			isWrong(t, main, 26+64, api.ErrSyntax)
		case n > 63:
			isNoExpr(t, src, 0, api.ErrSyntax)
			isWrong(t, main, 0, api.ErrSyntax)
		default:
			isExpr(t, src)
			isProgram(t, main)
		}
	}
	isExpr(t, nested(32, "{(", "x", ")}"))
	isExpr(t, nested(32, "({", "x", "})"))
	isNoExpr(t, nested(32, "{(", "{x}", ")}"), 64, api.ErrSyntax)
	isNoExpr(t, nested(33, "{(", "x", ")}"), 64, api.ErrSyntax)
}

// P13.1: brackets of patterns count with those of the bodies in which they stand.
func TestPatternBrackets(t *testing.T) {
	for _, n := range depths {
		src := "actor A() { receive { " + nested(n, "{", "_", "}") + " { stop } } } main A()"
		switch {
		case n > 63:
			isWrong(t, src, 22+63, api.ErrSyntax)
		case n > 62: // the body, 63 tuples, and what is in the last one
			isWrong(t, src, 0, api.ErrSyntax)
		default:
			isProgram(t, src)
		}
	}
}

// P13.1: up to 64 bodies stand open at a time. In the 64th one there is no way on from the words that ask for one more.
func TestBodies(t *testing.T) {
	for _, c := range []struct{ open, shut, word string }{
		{"{ if 1 ", " else { stop } }", "if"},
		{"{ if 1 { stop } else ", " }", "if"},
		{"{ receive { _ ", " } }", "receive"},
		{"{ receive { 1 { stop } _ ", " } }", "receive"},
		{"{ receive { after 0 ", " } }", "receive"},
		{"{ receive { _ { stop } after 0 ", " } }", "receive"},
	} {
		for _, n := range []int{1, 2, 62, 63, 64, 65, 66, 128, 1000} {
			src := "actor A() " + nested(n-1, c.open, "{ stop }", c.shut) + " main A()"
			if n <= 64 {
				if p := isProgram(t, src); tree.Depth(p) != n {
					t.Errorf("%d bodies: %d", n, tree.Depth(p))
				}
				continue
			}
			isWrong(t, src, len("actor A() ")+63*len(c.open)+len("{ "), api.ErrSyntax)
		}
		// The words alone are wrong there, whatever stands behind them.
		src := "actor A() " + strings.Repeat(c.open, 63) + "{ "
		isWrong(t, src+c.word, len(src), api.ErrSyntax)
		isWrong(t, src+c.word+" stop", len(src), api.ErrSyntax)
		isWrong(t, src+"stop", len(src)+4, api.ErrSyntax)
		isWrong(t, src+"out (", len(src)+4, api.ErrSyntax)
		isWrong(t, src+"out {", len(src)+4, api.ErrSyntax)
		isWrong(t, src+"out x; become A(", len(src)+16, api.ErrSyntax)
		// Where one body fewer stands open, they are not; nor is a bracket of an expression.
		src = "actor A() " + strings.Repeat(c.open, 62) + "{ "
		isWrong(t, src+c.word, len(src)+len(c.word), api.ErrSyntax)
		isWrong(t, src+"out (", len(src)+5, api.ErrSyntax)
		isWrong(t, src+"out (((", len(src)+5, api.ErrSyntax)
	}
}

// P13.1: the brackets that do not count: those of actors, and of a receive's arms.
func TestBracketsThatDoNotCount(t *testing.T) {
	round := nested(63, "(", "x", ")")
	isProgram(t, "actor A(x) { become A("+round+") } main A(("+round+"))")
	isProgram(t, "actor A(x) { let y = spawn A("+round+"); stop } main A(1)")
	isWrong(t, "actor A(x) { become A(("+round+")) } main A(1)", 22+63, api.ErrSyntax)
	isProgram(t, "actor A(x) { receive { _ when "+round+" { stop } } } main A(1)")
	isWrong(t, "actor A(x) { receive { _ when ("+round+") { stop } } } main A(1)", 30+63, api.ErrSyntax)
	isProgram(t, "actor A(x) { if "+round+" { stop } else { stop } } main A(1)")
}

// P13.1: thrown brackets of all sorts, held against the second telling.
func TestThrownBrackets(t *testing.T) {
	g := readRules()
	r := row(9)
	right, wrong := 0, 0
	for range 300 {
		open, shut := "actor A() ", " main A()"
		bodies, others := 50+r.next(18), r.next(4)
		for range bodies - 1 {
			o := one(&r, [2]string{"{ if 1 ", " else { stop } }"}, [2]string{"{ receive { _ ", " } }"}, [2]string{"{ receive { after 0 ", " } }"}, [2]string{"{ out (x); receive { {x} when ((1)) ", " } }"})
			open, shut = open+o[0], o[1]+shut
		}
		in := one(&r, "out "+nested(others, "(", "x", ")")+"; stop", "let x = "+nested(others, "{(", "x", ")}")+"; stop", "receive { "+nested(others, "{", "_", "}")+" { stop } }", "if "+nested(others, "(", "x", ")")+" { stop } else { stop }", "stop")
		src := open + "{ " + in + " }" + shut
		ok, place := g.placeOf(t, src)
		_, at, e := ask(src)
		switch {
		case ok && e == api.OK:
			right++
		case e != api.ErrSyntax || at != place:
			t.Fatalf("%q: %d at %d, not at %d", src, int(e), at, place)
		case !ok:
			wrong++
		}
	}
	if right < 50 || wrong < 50 {
		t.Error(right, wrong)
	}
}

// P13.1, P13.2: a tree that is too deep without brackets.
func TestLongSums(t *testing.T) {
	for _, sign := range []string{"+", "-", "*"} {
		for _, n := range []int{1, 2, 62, 63, 64, 65, 66, 500, 20000} {
			src := strings.TrimSuffix(strings.Repeat("x"+sign, n), sign)
			for ahead, most := range map[string]int{"": 64, "actor A() { stop } main A(": 64, "actor A() { out ": 63, "actor A() { receive { _ { out ": 62} {
				text := map[string]string{"": "", "actor A() { stop } main A(": ")", "actor A() { out ": "; stop } main A()", "actor A() { receive { _ { out ": "; stop } } } main A()"}[ahead]
				switch {
				case ahead == "" && n <= most:
					isExpr(t, src)
				case ahead == "":
					isNoExpr(t, src, 0, api.ErrSyntax)
				case n <= most:
					isProgram(t, ahead+src+text)
				default:
					isWrong(t, ahead+src+text, 0, api.ErrSyntax)
				}
			}
			// A word that is wrong is told, however deep the tree is.
			isNoExpr(t, src+" x", len(src)+1, api.ErrSyntax)
		}
	}
}

// parted is an expression of n parts.
func parted(n int) string {
	if n < 2 {
		return "1"
	}
	var l []string
	left := n - 1
	for k := min(4, left); k > 0; k-- {
		l = append(l, parted(left/k))
		left -= left / k
	}
	return "{" + strings.Join(l, ",") + "}"
}

// P13.2: an expression has up to 4096 parts; P13.1: a program has as many.
func TestGreatTrees(t *testing.T) {
	for _, n := range []int{1, 2, 3, 100, 4093, 4094, 4095, 4096, 4097, 4098, 20000} {
		src := parted(n)
		if n > 4096 {
			isNoExpr(t, src, 0, api.ErrSyntax)
			isNoExpr(t, src+"}", len(src), api.ErrSyntax)
		} else if x := isExpr(t, src); tree.Size(api.Program{Args: []api.Expr{x}}) != n {
			t.Error(n)
		}
		// The Def and its body are parts, too.
		if src := "actor A() { stop } main A(" + src + ")"; n > 4094 {
			isWrong(t, src, 0, api.ErrSyntax)
		} else {
			isProgram(t, src)
		}
	}
	for _, n := range []int{2046, 2047, 2048, 5000} {
		if src := "actor A() { " + strings.Repeat("out x;", n) + " stop } main A()"; n > 2047 {
			isWrong(t, src, 0, api.ErrSyntax)
		} else {
			isProgram(t, src)
		}
	}
}

// P13.1, P13.2: sources of 65536 bytes, one less, and more.
func TestGreatSources(t *testing.T) {
	for _, n := range []int{65535, 65536, 65537, 1 << 20} {
		for _, fill := range []string{" ", "\n", "# ("} {
			p := "actor A() { stop } main A() "
			p += strings.Repeat(fill, n)[:n-len(p)]
			x := "x " + strings.Repeat(fill, n)[:n-2]
			if n > 65536 {
				isWrong(t, p, 65536, api.ErrLex)
				isNoExpr(t, x, 65536, api.ErrLex)
			} else {
				isProgram(t, p)
				isTree(t, x, variable(0, "x"))
			}
		}
		for _, fill := range []string{"(", "{", "x ", "{(", "x+", "actor ", "1,", ")", "{x,"} {
			src := strings.Repeat(fill, n)[:n]
			at, e := 65536, api.ErrLex
			if n <= 65536 {
				_, at, _ = ask(src)
				e = api.ErrSyntax
			}
			isWrong(t, src, at, e)
		}
	}
	isWrong(t, strings.Repeat("?", 65537), 65536, api.ErrLex)
	isNoExpr(t, strings.Repeat("(", 65536), 64, api.ErrSyntax)
	isNoExpr(t, strings.Repeat("{(", 32768), 64, api.ErrSyntax)
	isNoExpr(t, strings.Repeat("x ", 32768), 2, api.ErrSyntax)
	isNoExpr(t, strings.Repeat("x+", 32768), 65536, api.ErrSyntax)
	isNoExpr(t, strings.Repeat("x+", 32767)+" x", 0, api.ErrSyntax)
}
