package parse_test

import (
	"reflect"
	"slices"
	"strings"
	"testing"

	"postbag/api"
	"postbag/lex"
	"postbag/parse"
	"postbag/tree"
)

// P13.1: thrown programs are parsed as they were laid, with their places, whatever stands between their words.
func TestThrownPrograms(t *testing.T) {
	r := row(1)
	for range 400 {
		g := grown{row: r}
		laid := g.program()
		r = g.row
		for _, between := range []func(bool) string{blank, closely, r.widely} {
			src, ats := joined(g.words, between)
			want := at(copied(laid), ats)
			if p := isProgram(t, src); !alike(p, want) {
				t.Fatalf("%q: %+v, not %+v", src, p, want)
			}
		}
	}
}

// P13.2: likewise thrown expressions.
func TestThrownExpressions(t *testing.T) {
	r := row(2)
	for range 1500 {
		g := grown{row: r}
		laid := []api.Expr{g.expr(4)}
		r = g.row
		for _, between := range []func(bool) string{blank, closely, r.widely} {
			src, ats := joined(g.words, between)
			isTree(t, src, at(copied(laid), ats)[0])
		}
	}
}

// P13.3: what is printed of a tree that may be is parsed as it; P13.4: and what is parsed, printed and parsed again, is the same.
func TestBack(t *testing.T) {
	r := row(3)
	for range 400 {
		g := grown{row: r}
		laid := g.program()
		r = g.row
		text := tree.Print(laid)
		p := isProgram(t, text)
		if !tree.Same(p, laid) || tree.Print(p) != text {
			t.Fatalf("%q: %q", text, tree.Print(p))
		}
		src, _ := joined(g.words, r.widely)
		once := isProgram(t, src)
		if again := isProgram(t, tree.Print(once)); !tree.Same(once, again) || !alike(again, p) {
			t.Fatalf("%q: %q", src, tree.Print(again))
		}
	}
}

// inBody is a program of one body.
func inBody(b api.Body) api.Program {
	return api.Program{Defs: []api.Def{{Name: "A", Body: b}}, Main: "A"}
}

// P13.3: of trees as deep and as great as may be, which no more than 64 brackets stand open in.
func TestBackOfDeepTrees(t *testing.T) {
	stop := api.Body{Kind: api.EndStop}
	for _, n := range []int{1, 2, 30, 61, 62, 63} {
		e, sum, p, either, late, arms := variable(0, "x"), number(0, 1), api.Pattern{Kind: api.PatInt, N: -1}, stop, stop, stop
		for i := range n {
			e = api.Expr{Kind: api.ExprTuple, Args: []api.Expr{e}}
			sum = reckon(sum, []string{"+", "-", "*", "<", "=="}[i%5], number(0, i))
			if i < 62 {
				p = api.Pattern{Kind: api.PatTuple, Args: []api.Pattern{p}}
			}
			either = api.Body{Kind: api.EndIf, Args: []api.Expr{number(0, 1)}, Parts: []api.Body{stop, either}}
			late = api.Body{Kind: api.EndReceive, Late: true, After: i, Parts: []api.Body{late}}
			arms = api.Body{Kind: api.EndReceive, Arms: []api.Arm{{Pattern: api.Pattern{Kind: api.PatAny}, Body: arms}}}
		}
		matched := inBody(api.Body{Kind: api.EndReceive, Arms: []api.Arm{{Pattern: p, Body: stop}}})
		main := inBody(stop)
		main.Args = []api.Expr{e, sum}
		for i, q := range []api.Program{main, matched, inBody(either), inBody(late), inBody(arms)} {
			text := tree.Print(q)
			if text == "" || !tree.Same(isProgram(t, text), q) {
				t.Errorf("%d of %d: %q", i, n, text)
			}
		}
	}
	great := inBody(stop)
	for range 2047 {
		great.Defs[0].Body.Stmts = append(great.Defs[0].Body.Stmts, api.Stmt{Kind: api.StmtOut, Args: []api.Expr{variable(0, "x")}})
	}
	if !tree.Same(isProgram(t, tree.Print(great)), great) {
		t.Error("the greatest one")
	}
}

// P13.3: the text of a tree that may be is more than MaxSource bytes, if its names are long; lex refuses that.
func TestBackOfGreatTexts(t *testing.T) {
	p := inBody(api.Body{Kind: api.EndStop})
	long := strings.Repeat("n", api.MaxName)
	for tree.Size(p) < 4090 {
		p.Defs[0].Body.Stmts = append(p.Defs[0].Body.Stmts, api.Stmt{Kind: api.StmtOut, Args: []api.Expr{variable(0, long)}})
		text := tree.Print(p)
		if len(text) > api.MaxSource {
			isWrong(t, text, api.MaxSource, api.ErrLex)
			return
		}
		if n := len(p.Defs[0].Body.Stmts); n%100 == 0 && !tree.Same(isProgram(t, text), p) {
			t.Errorf("%d statements", n)
		}
	}
	t.Error("no great text")
}

// P13.5: comments and blanks between words change nothing but places, and these go with their words.
func TestBetweenWords(t *testing.T) {
	r := row(4)
	l := words(t, whole)
	for i := range len(l) + 1 {
		some := slices.Clone(l)
		if i < len(l) { // one word less, with which most often something is wrong
			some = slices.Delete(some, i, i+1)
		}
		src, ats := joined(some, blank)
		p, place, e := ask(src)
		for _, between := range []func(bool) string{
			closely, r.widely,
			func(bool) string { return "\n" }, func(bool) string { return "\t" }, func(bool) string { return "\r" },
			func(bool) string { return "#?'\x00\n" }, func(bool) string { return "#}\n # {\n\n" },
		} {
			other, others := joined(some, between)
			moved := make([]int, len(src)+1) // where what stood at a place stands now
			for k, at := range ats {
				moved[at] = others[k]
			}
			q, n, f := ask(other)
			if e == api.OK {
				moved[place] = 0
			}
			if f != e || n != moved[place] || !tree.Same(p, q) {
				t.Errorf("%q: %d at %d, not %d at %d", other, int(f), n, int(e), moved[place])
			}
			moved[ats[0]] = others[0]
			if e == api.OK && !alike(at(copied(p), moved), q) {
				t.Errorf("%q: not at its places", other)
			}
		}
	}
}

// P13.1, P13.2: where the parts of each kind begin.
func TestAt(t *testing.T) {
	for src, want := range map[string][]string{ // each expression, from its root down
		"x":               {"x"},
		" 12 ":            {"12 "},
		"'a":              {"'a"},
		"#\nself":         {"self"},
		"{ 1 , x }":       {"{ 1 , x }", "1 , x }", "x }"},
		"(x)":             {"x)"},
		"( ( {x} ) )":     {"{x} ) )", "x} ) )"},
		"1 + 2":           {"1 + 2", "1 + 2", "2"},
		"(1 + 2)":         {"1 + 2)", "1 + 2)", "2)"},
		"(1 + 2) * 3":     {"1 + 2) * 3", "1 + 2) * 3", "1 + 2) * 3", "2) * 3", "3"},
		"3 * (1 + 2)":     {"3 * (1 + 2)", "3 * (1 + 2)", "1 + 2)", "1 + 2)", "2)"},
		"1 - 2 - 3":       {"1 - 2 - 3", "1 - 2 - 3", "1 - 2 - 3", "2 - 3", "3"},
		"((x)) < ((y))":   {"x)) < ((y))", "x)) < ((y))", "y))"},
		"{(x) == y, 'b}":  {"{(x) == y, 'b}", "x) == y, 'b}", "x) == y, 'b}", "y, 'b}", "'b}"},
		"(({1}) + x) * 2": {"{1}) + x) * 2", "{1}) + x) * 2", "{1}) + x) * 2", "1}) + x) * 2", "x) * 2", "2"},
	} {
		var rests []string
		var walk func(e api.Expr)
		walk = func(e api.Expr) {
			rests = append(rests, src[e.At:])
			for _, a := range e.Args {
				walk(a)
			}
		}
		walk(isExpr(t, src))
		if !slices.Equal(rests, want) {
			t.Errorf("%q: %q", src, rests)
		}
	}
	src := whole
	p := isProgram(t, src)
	for i, c := range []struct {
		at    int
		begin string
	}{
		{p.At, "A(1, {self})"}, {p.Args[1].At, "{self}"}, {p.Defs[0].At, "actor A("}, {p.Defs[1].At, "actor B("},
		{p.Defs[0].Body.Stmts[0].At, "let z ="}, {p.Defs[0].Body.Stmts[0].Args[0].At, "{x, 'a}, 2"}, {p.Defs[0].Body.Stmts[1].At, "let w ="},
		{p.Defs[0].Body.Stmts[1].Args[0].At, "x - y) *"}, {p.Defs[0].Body.Stmts[2].At, "send z"}, {p.Defs[0].Body.Stmts[2].Args[1].At, "w; out"}, {p.Defs[0].Body.Stmts[3].At, "out w"},
		{p.Defs[0].Body.At, "if x =="}, {p.Defs[0].Body.Args[0].At, "x == y"}, {p.Defs[0].Body.Parts[0].At, "stop } else"}, {p.Defs[0].Body.Parts[1].At, "become A(z"}, {p.Defs[0].Body.Parts[1].Args[1].At, "1) }"},
		{p.Defs[1].Body.At, "receive { {_"}, {p.Defs[1].Body.Arms[0].Pattern.At, "{_, -1"}, {p.Defs[1].Body.Arms[0].Pattern.Args[0].At, "_, -1"}, {p.Defs[1].Body.Arms[0].Pattern.Args[1].At, "-1, {n"},
		{p.Defs[1].Body.Arms[0].Pattern.Args[2].At, "{n}} when"}, {p.Defs[1].Body.Arms[0].Pattern.Args[2].Args[0].At, "n}} when"}, {p.Defs[1].Body.Arms[0].Guard[0].At, "n < 9"}, {p.Defs[1].Body.Arms[0].Body.At, "stop } 'b"},
		{p.Defs[1].Body.Arms[1].Pattern.At, "'b {"}, {p.Defs[1].Body.Arms[2].Pattern.At, "4 {"}, {p.Defs[1].Body.Arms[3].Pattern.At, "v {"}, {p.Defs[1].Body.Parts[0].At, "receive { after 6"}, {p.Defs[1].Body.Parts[0].Parts[0].At, "stop } } } }"},
	} {
		if c.at <= 0 && i != 2 || !strings.HasPrefix(src[c.at:], c.begin) {
			t.Errorf("%d: %q, not %q", i, src[c.at:], c.begin)
		}
	}
}

// P13.1: a source stays as it is, what is answered does not hang on it any more, and no two lists share memory.
func TestMemoryOfItsOwn(t *testing.T) {
	src := []byte(whole + " # behind it")
	room := src[:len(whole)]
	p, _, e := parse.Program(room)
	x, _, f := parse.Expr(src[len("actor A(x, y) { let z = spawn B("):][:len("{x, 'a}")])
	if e != api.OK || f != api.OK || string(src) != whole+" # behind it" {
		t.Fatal(int(e), int(f), string(src))
	}
	text := tree.Print(p)
	for i := range src {
		src[i] = '?'
	}
	if tree.Print(p) != text || len(x.Args) != 2 || x.Args[0].Name != "x" || x.Args[1].Name != "a" {
		t.Error(tree.Print(p), x)
	}
	type span struct{ from, to uintptr }
	var spans []span
	var walk func(v reflect.Value)
	walk = func(v reflect.Value) {
		switch v.Kind() {
		case reflect.Struct:
			for i := range v.NumField() {
				walk(v.Field(i))
			}
		case reflect.Slice:
			if v.Cap() > 0 {
				spans = append(spans, span{v.Pointer(), v.Pointer() + uintptr(v.Cap())*v.Type().Elem().Size()})
			}
			for i := range v.Len() {
				walk(v.Index(i))
			}
		}
	}
	walk(reflect.ValueOf(p))
	for i, a := range spans {
		for _, b := range spans[:i] {
			if a.from < b.to && b.from < a.to {
				t.Fatal("two lists share memory")
			}
		}
	}
}

// P13.1, P13.2: whatever bytes come in, there is an answer, the same one each time, and its place is in the source, or its end.
func TestThrownBytes(t *testing.T) {
	r := row(5)
	l := append(words(t, whole), "?", "'", "\x00", "é", "#", "\n", " ")
	for range 20000 {
		var b strings.Builder
		for range r.next(20) {
			b.WriteString(one(&r, l...))
			b.WriteString(one(&r, "", " "))
		}
		src := b.String()
		p, at, e := ask(src)
		q, n, f := ask(src)
		if at != n || e != f || !alike(p, q) || at < 0 || at > len(src) {
			t.Fatalf("%q", src)
		}
		_, place, wrong := lex.Tokens([]byte(src))
		if wrong != api.OK && (e != api.ErrLex || at != place) || wrong == api.OK && e != api.OK && e != api.ErrSyntax {
			t.Fatalf("%q: %d at %d", src, int(e), at)
		}
		if _, at, e := parse.Expr([]byte(src)); at < 0 || at > len(src) || e == api.OK && at != 0 {
			t.Fatalf("%q: %d at %d", src, int(e), at)
		}
	}
}
