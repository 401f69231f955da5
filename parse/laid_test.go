package parse_test

import (
	"reflect"
	"strconv"
	"strings"
	"testing"

	"postbag/api"
	"postbag/lex"
	"postbag/parse"
	"postbag/tree"
)

// row tells numbers that look thrown, the same ones each time.
type row uint64

func (r *row) next(n int) int {
	*r = *r*6364136223846793005 + 1442695040888963407
	return int(uint64(*r) >> 33 % uint64(n))
}

func one[T any](r *row, l ...T) T { return l[r.next(len(l))] }

// ask parses a program's text.
func ask(src string) (api.Program, int, api.Errno) { return parse.Program([]byte(src)) }

// isProgram parses what has to be a program.
func isProgram(t *testing.T, src string) api.Program {
	t.Helper()
	p, at, e := ask(src)
	if e != api.OK || at != 0 || !tree.Good(p) {
		t.Fatalf("%.300q: %d at %d", src, int(e), at)
	}
	return p
}

// isExpr parses what has to be an expression.
func isExpr(t *testing.T, src string) api.Expr {
	t.Helper()
	x, at, e := parse.Expr([]byte(src))
	if e != api.OK || at != 0 {
		t.Fatalf("%.300q: %d at %d", src, int(e), at)
	}
	return x
}

// isWrong tells of what has to be no program where it is wrong.
func isWrong(t *testing.T, src string, at int, e api.Errno) {
	t.Helper()
	p, n, f := ask(src)
	if n != at || f != e {
		t.Errorf("%.300q: %d at %d, not %d at %d", src, int(f), n, int(e), at)
	}
	if !reflect.DeepEqual(p, api.Program{}) {
		t.Errorf("%.300q: a tree beside an error", src)
	}
}

// isNoExpr tells likewise of what has to be no expression.
func isNoExpr(t *testing.T, src string, at int, e api.Errno) {
	t.Helper()
	x, n, f := parse.Expr([]byte(src))
	if n != at || f != e {
		t.Errorf("%.300q: %d at %d, not %d at %d", src, int(f), n, int(e), at)
	}
	if !reflect.DeepEqual(x, api.Expr{}) {
		t.Errorf("%.300q: an expression beside an error", src)
	}
}

// words are those of a source, without its end.
func words(t *testing.T, src string) []string {
	t.Helper()
	l, _, e := lex.Tokens([]byte(src))
	if e != api.OK {
		t.Fatal(src)
	}
	var texts []string
	for i := range len(l) - 1 {
		texts = append(texts, strings.TrimRight(src[l[i].At:l[i+1].At], " \n"))
	}
	return texts
}

// apart tells whether two words need something between them.
func apart(a, b string) bool {
	named := func(c byte) bool {
		return c == '_' || '0' <= c && c <= '9' || 'a' <= c && c <= 'z' || 'A' <= c && c <= 'Z'
	}
	last, first := a[len(a)-1], b[0]
	return named(last) && named(first) || last == '=' && first == '='
}

// joined is the text of words with something between them, and where each of them, and its end, begins.
func joined(l []string, between func(need bool) string) (string, []int) {
	var b strings.Builder
	var ats []int
	for i, w := range l {
		b.WriteString(between(i > 0 && apart(l[i-1], w)))
		ats = append(ats, b.Len())
		b.WriteString(w)
	}
	b.WriteString(between(false))
	return b.String(), append(ats, b.Len())
}

// blank is one blank.
func blank(bool) string { return " " }

// closely is nothing, where nothing need be.
func closely(need bool) string {
	if need {
		return " "
	}
	return ""
}

// widely is anything that may stand between words.
func (r *row) widely(bool) string {
	return one(r, " ", "\n", "\t", "\r\n", "  \t", "#\n", "# actor ? { '\n", " ##;\n\r ", "\n# main A() stop\n#\n")
}

// at has a tree's places, which were numbers of words, where these stand.
func at[T any](x T, ats []int) T {
	var walk func(v reflect.Value)
	walk = func(v reflect.Value) {
		switch v.Kind() {
		case reflect.Struct:
			for i := range v.NumField() {
				if f := v.Field(i); v.Type().Field(i).Name == "At" {
					f.SetInt(int64(ats[f.Int()]))
				} else {
					walk(f)
				}
			}
		case reflect.Slice:
			for i := range v.Len() {
				walk(v.Index(i))
			}
		}
	}
	walk(reflect.ValueOf(&x).Elem())
	return x
}

// grown is a thrown program: its words, as they are laid, with its tree, whose places are numbers of words.
type grown struct {
	row
	words []string
}

// put lays words, and tells the number of the first one.
func (g *grown) put(l ...string) int {
	at := len(g.words)
	g.words = append(g.words, l...)
	return at
}

func (g *grown) name() string {
	s := one(&g.row, "a", "b", "x", "A", "_a", "a1", "__", "selfish", "Main", strings.Repeat("n", 32))
	g.put(s)
	return s
}

func (g *grown) number() int {
	n := one(&g.row, 0, 1, 2, 12, 1<<32, api.MaxInt-1, api.MaxInt)
	g.put(one(&g.row, "", "", "", "0", "000") + strconv.Itoa(n))
	return n
}

// some lays parts with commas between them, from one number on up to another one.
func some[T any](g *grown, from, to int, part func() T) []T {
	var l []T
	for i := range from + g.next(to-from+1) {
		if i > 0 {
			g.put(",")
		}
		l = append(l, part())
	}
	return l
}

// params lays a list between ( ), most often a short one.
func params[T any](g *grown, part func() T) []T {
	g.put("(")
	l := some(g, 0, g.next(9), part)
	g.put(")")
	return l
}

func (g *grown) prim(deep int) api.Expr {
	kind := g.next(6)
	if deep < 2 {
		kind = g.next(4)
	}
	e := api.Expr{At: len(g.words)}
	less := func() api.Expr { return g.expr(deep - 1) }
	switch kind {
	case 0:
		e.Kind, e.N = api.ExprInt, g.number()
	case 1:
		e.Kind, e.Name = api.ExprAtom, one(&g.row, "a", "ok", "_x", "after1")
		g.put("'" + e.Name)
	case 2:
		e.Kind, e.Name = api.ExprVar, g.name()
	case 3:
		e.Kind = api.ExprSelf
		g.put("self")
	case 4:
		e.Kind = api.ExprTuple
		g.put("{")
		e.Args = some(g, 1, 4, less)
		g.put("}")
	default:
		g.put("(")
		e = less()
		g.put(")")
	}
	return e
}

// signed lays parts with signs between them, at most so many, which bind to the left.
func (g *grown) signed(most int, part func() api.Expr, signs ...string) api.Expr {
	e := part()
	for range max(0, g.next(most+3)-2) {
		sign := one(&g.row, signs...)
		g.put(sign)
		e = api.Expr{Kind: api.ExprBin, At: e.At, Name: sign, Args: []api.Expr{e, part()}}
	}
	return e
}

func (g *grown) expr(deep int) api.Expr {
	prim := func() api.Expr { return g.prim(deep) }
	term := func() api.Expr { return g.signed(3, prim, "*") }
	sum := func() api.Expr { return g.signed(3, term, "+", "-") }
	return g.signed(1, sum, "<", "==")
}

func (g *grown) arg() api.Expr { return g.expr(2) }

func (g *grown) pattern(deep int) api.Pattern {
	kind := g.next(6)
	if deep < 2 {
		kind = g.next(5)
	}
	p := api.Pattern{At: len(g.words)}
	switch kind {
	case 0:
		p.Kind = api.PatAny
		g.put("_")
	case 1:
		p.Kind, p.N = api.PatInt, g.number()
	case 2:
		p.Kind = api.PatInt
		g.put("-")
		p.N = -g.number()
	case 3:
		p.Kind, p.Name = api.PatAtom, one(&g.row, "a", "ok", "stops")
		g.put("'" + p.Name)
	case 4:
		p.Kind, p.Name = api.PatVar, g.name()
	default:
		p.Kind = api.PatTuple
		g.put("{")
		p.Args = some(g, 1, 4, func() api.Pattern { return g.pattern(deep - 1) })
		g.put("}")
	}
	return p
}

func (g *grown) stmt() api.Stmt {
	s := api.Stmt{At: len(g.words)}
	switch g.next(4) {
	case 0:
		s.Kind = api.StmtLet
		g.put("let")
		s.Name = g.name()
		g.put("=")
		s.Args = []api.Expr{g.arg()}
	case 1:
		s.Kind = api.StmtSpawn
		g.put("let")
		s.Name = g.name()
		g.put("=", "spawn")
		s.Actor = g.name()
		s.Args = params(g, g.arg)
	case 2:
		s.Kind = api.StmtSend
		g.put("send")
		s.Args = some(g, 2, 2, g.arg)
	default:
		s.Kind = api.StmtOut
		g.put("out")
		s.Args = []api.Expr{g.arg()}
	}
	g.put(";")
	return s
}

// body lays one of at most so many levels of bodies.
func (g *grown) body(deep int) api.Body {
	g.put("{")
	var stmts []api.Stmt
	for range g.next(4) {
		stmts = append(stmts, g.stmt())
	}
	kind := g.next(5)
	if deep < 2 {
		kind = g.next(2)
	}
	b := api.Body{At: len(g.words)}
	switch kind {
	case 0:
		b.Kind = api.EndBecome
		g.put("become")
		b.Actor = g.name()
		b.Args = params(g, g.arg)
	case 1:
		b.Kind = api.EndStop
		g.put("stop")
	case 2:
		b.Kind = api.EndIf
		g.put("if")
		b.Args = []api.Expr{g.arg()}
		then := g.body(deep - 1)
		g.put("else")
		b.Parts = []api.Body{then, g.body(deep - 1)}
	default:
		g.receive(&b, deep)
	}
	b.Stmts = stmts
	g.put("}")
	return b
}

func (g *grown) receive(b *api.Body, deep int) {
	b.Kind = api.EndReceive
	g.put("receive", "{")
	b.Late = g.next(2) == 0
	arms := g.next(3)
	if !b.Late {
		arms++
	}
	for range arms {
		a := api.Arm{Pattern: g.pattern(3)}
		if g.next(2) == 0 {
			g.put("when")
			a.Guard = []api.Expr{g.arg()}
		}
		a.Body = g.body(deep - 1)
		b.Arms = append(b.Arms, a)
	}
	if b.Late {
		g.put("after")
		b.After = g.number()
		b.Parts = []api.Body{g.body(deep - 1)}
	}
	g.put("}")
}

func (g *grown) program() api.Program {
	var p api.Program
	for range 1 + g.next(3) {
		d := api.Def{At: g.put("actor")}
		d.Name = g.name()
		d.Params = params(g, g.name)
		d.Body = g.body(3)
		p.Defs = append(p.Defs, d)
	}
	g.put("main")
	p.At = len(g.words)
	p.Main = g.name()
	p.Args = params(g, g.arg)
	return p
}

// alike tells whether two trees are the same with their places; a list without a part is as good as none.
func alike(a, b any) bool {
	var same func(a, b reflect.Value) bool
	same = func(a, b reflect.Value) bool {
		switch a.Kind() {
		case reflect.Struct:
			for i := range a.NumField() {
				if !same(a.Field(i), b.Field(i)) {
					return false
				}
			}
			return true
		case reflect.Slice:
			if a.Len() != b.Len() {
				return false
			}
			for i := range a.Len() {
				if !same(a.Index(i), b.Index(i)) {
					return false
				}
			}
			return true
		}
		return a.Equal(b)
	}
	return same(reflect.ValueOf(a), reflect.ValueOf(b))
}

// copied is a tree in memory of its own.
func copied[T any](x T) T {
	var walk func(to, from reflect.Value)
	walk = func(to, from reflect.Value) {
		switch from.Kind() {
		case reflect.Struct:
			for i := range from.NumField() {
				walk(to.Field(i), from.Field(i))
			}
		case reflect.Slice:
			to.Set(reflect.MakeSlice(from.Type(), from.Len(), from.Len()))
			for i := range from.Len() {
				walk(to.Index(i), from.Index(i))
			}
		default:
			to.Set(from)
		}
	}
	var y T
	walk(reflect.ValueOf(&y).Elem(), reflect.ValueOf(x))
	return y
}
