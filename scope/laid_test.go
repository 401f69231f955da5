package scope_test

import (
	"reflect"
	"slices"
	"strconv"
	"testing"

	"postbag/api"
	"postbag/parse"
	"postbag/scope"
	"postbag/tree"
)

// laid is the tree of a program's text.
func laid(t *testing.T, src string) api.Program {
	t.Helper()
	p, at, e := parse.Program([]byte(src))
	if e != api.OK {
		t.Fatalf("%q: %d at %d", src, int(e), at)
	}
	return p
}

// isTold holds what is told of a program's text against what has to be.
func isTold(t *testing.T, src string, at int, e api.Errno) {
	t.Helper()
	if n, f := scope.Check(laid(t, src)); n != at || f != e {
		t.Errorf("%q: %d at %d, not %d at %d", src, int(f), n, int(e), at)
	}
}

// isRight tells of a program's text that nothing is wrong.
func isRight(t *testing.T, src string) {
	t.Helper()
	isTold(t, src, 0, api.OK)
}

// row tells numbers that look thrown, the same ones each time.
type row uint64

func (r *row) next(n int) int {
	*r = *r*6364136223846793005 + 1442695040888963407
	return int(uint64(*r) >> 33 % uint64(n))
}

func one[T any](r *row, l ...T) T { return l[r.next(len(l))] }

// some is a list of from one number on up to another one of parts.
func some[T any](r *row, from, to int, part func() T) []T {
	var l []T
	for range from + r.next(to-from+1) {
		l = append(l, part())
	}
	return l
}

// grown is a thrown program, of names that are there; but one in so many is another one. Each part has a place of its own.
type grown struct {
	row
	slip int
	at   int
	defs []api.Def // their Names and Params
	made int       // how many names there are
}

func (g *grown) place() int {
	g.at += 1 + g.next(9)
	return g.at
}

// slips tells whether a name is to be another one.
func (g *grown) slips() bool { return g.slip > 0 && g.next(g.slip) == 0 }

// fresh is a name that is not in scope.
func (g *grown) fresh(in []string) string {
	if len(in) > 0 && g.slips() {
		return one(&g.row, in...)
	}
	for {
		g.made++
		if s := one(&g.row, "v", "a", "A", "x_") + strconv.Itoa(g.made%7); !slices.Contains(in, s) {
			return s
		}
	}
}

func (g *grown) expr(in []string, deep int) api.Expr {
	kind := 1 + g.next(6)
	if deep < 2 {
		kind = 1 + g.next(4)
	}
	e := api.Expr{Kind: kind, At: g.place()}
	less := func() api.Expr { return g.expr(in, deep-1) }
	switch kind {
	case api.ExprInt:
		e.N = g.next(9)
	case api.ExprAtom:
		e.Name = one(&g.row, "a", "ab", "B", "_", "v1", "ok") + one(&g.row, "", "1", "a")
		if e.Name == "_" {
			e.Name = "__"
		}
	case api.ExprVar:
		switch {
		case g.slips():
			e.Name = one(&g.row, "v1", "v2", "a3", "A4", "none")
		case len(in) > 0:
			e.Name = one(&g.row, in...)
		default:
			e.Kind = api.ExprSelf
		}
	case api.ExprTuple:
		e.Args = some(&g.row, 1, 4, less)
	case api.ExprBin:
		e.Name, e.Args = one(&g.row, "+", "-", "*", "<", "=="), []api.Expr{less(), less()}
	}
	return e
}

// actor is an actor's name, with what it is made of.
func (g *grown) actor(in []string) (string, []api.Expr) {
	d := one(&g.row, g.defs...)
	n := len(d.Params)
	if g.slips() {
		n = g.next(4)
	}
	name := d.Name
	if g.slips() {
		name = one(&g.row, "v1", "none", "A")
	}
	return name, some(&g.row, n, n, func() api.Expr { return g.expr(in, 2) })
}

// pattern is one, and what it binds besides what is in scope.
func (g *grown) pattern(in []string, deep int) (api.Pattern, []string) {
	kind := 1 + g.next(5)
	if deep < 2 {
		kind = 1 + g.next(4)
	}
	p := api.Pattern{Kind: kind, At: g.place()}
	switch kind {
	case api.PatInt:
		p.N = g.next(9) - 4
	case api.PatAtom:
		p.Name = one(&g.row, "a", "b", "p", "pp")
	case api.PatVar:
		p.Name = g.fresh(in)
		in = append(slices.Clip(in), p.Name)
	case api.PatTuple:
		for range 1 + g.next(4) {
			var part api.Pattern
			part, in = g.pattern(in, deep-1)
			p.Args = append(p.Args, part)
		}
	}
	return p, in
}

func (g *grown) stmt(in []string) (api.Stmt, []string) {
	s := api.Stmt{Kind: 1 + g.next(4), At: g.place()}
	arg := func() api.Expr { return g.expr(in, 3) }
	switch s.Kind {
	case api.StmtSpawn:
		s.Actor, s.Args = g.actor(in)
	case api.StmtSend:
		s.Args = []api.Expr{arg(), arg()}
	default:
		s.Args = []api.Expr{arg()}
	}
	if s.Kind == api.StmtLet || s.Kind == api.StmtSpawn {
		s.Name = g.fresh(in)
		in = append(slices.Clip(in), s.Name)
	}
	return s, in
}

func (g *grown) body(in []string, deep int) api.Body {
	b := api.Body{Kind: 1 + g.next(4), At: g.place()}
	if deep < 2 {
		b.Kind = 1 + g.next(2)
	}
	for range g.next(4) {
		var s api.Stmt
		s, in = g.stmt(in)
		b.Stmts = append(b.Stmts, s)
	}
	less := func() api.Body { return g.body(in, deep-1) }
	switch b.Kind {
	case api.EndBecome:
		b.Actor, b.Args = g.actor(in)
	case api.EndIf:
		b.Args, b.Parts = []api.Expr{g.expr(in, 3)}, []api.Body{less(), less()}
	case api.EndReceive:
		b.Arms = some(&g.row, 1, 3, func() api.Arm {
			p, in := g.pattern(in, 3)
			return api.Arm{Pattern: p, Guard: some(&g.row, 0, 1, func() api.Expr { return g.expr(in, 2) }), Body: g.body(in, deep-1)}
		})
		if g.next(2) == 0 {
			b.Late, b.After, b.Parts = true, g.next(9), []api.Body{less()}
		}
	}
	return b
}

func (g *grown) program() api.Program {
	g.defs, g.at = nil, g.next(9)
	var names []string
	for range 1 + g.next(4) {
		d := api.Def{At: g.place(), Name: g.fresh(names)}
		names = append(names, d.Name)
		for range g.next(5) {
			d.Params = append(d.Params, g.fresh(d.Params))
		}
		g.defs = append(g.defs, d)
	}
	p := api.Program{At: g.place()}
	for _, d := range g.defs {
		d.Body = g.body(d.Params, 3)
		p.Defs = append(p.Defs, d)
	}
	p.Main, p.Args = g.actor(nil)
	return p
}

// thrown are so many programs that may be, in which one in slip names is another one than it should be; none, if that is 0.
func thrown(seed row, n, slip int) []api.Program {
	g := grown{row: seed, slip: slip}
	var l []api.Program
	for len(l) < n {
		if p := g.program(); tree.Good(p) {
			l = append(l, p)
		}
	}
	return l
}

// altered is a tree in memory of its own, some of whose texts are other ones: each field of a struct is asked, by the
// struct's name, its Kind and the field's name, for what it should be.
func altered(p api.Program, name func(part string, kind int64, field, s string) string) api.Program {
	var walk func(to, from reflect.Value)
	walk = func(to, from reflect.Value) {
		switch from.Kind() {
		case reflect.Struct:
			kind := int64(0)
			if k := from.FieldByName("Kind"); k.IsValid() {
				kind = k.Int()
			}
			for i := range from.NumField() {
				walk(to.Field(i), from.Field(i))
				part, f := from.Type(), from.Type().Field(i)
				switch {
				case f.Type.Kind() == reflect.String:
					to.Field(i).SetString(name(part.Name(), kind, f.Name, from.Field(i).String()))
				case f.Name == "Params":
					for k := range to.Field(i).Len() {
						s := to.Field(i).Index(k)
						s.SetString(name(part.Name(), kind, f.Name, s.String()))
					}
				}
			}
		case reflect.Slice:
			to.Set(reflect.MakeSlice(from.Type(), from.Len(), from.Len()))
			for i := range from.Len() {
				walk(to.Index(i), from.Index(i))
			}
		default:
			to.Set(from)
		}
	}
	q := api.Program{}
	walk(reflect.ValueOf(&q).Elem(), reflect.ValueOf(p))
	return q
}

// variables has each variable's name another one.
func variables(p api.Program, name func(string) string) api.Program {
	return altered(p, func(part string, kind int64, field, s string) string {
		switch {
		case field == "Params",
			part == "Expr" && kind == api.ExprVar,
			part == "Pattern" && kind == api.PatVar,
			part == "Stmt" && field == "Name" && s != "":
			return name(s)
		}
		return s
	})
}
