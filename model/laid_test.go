package model_test

import (
	"slices"
	"strconv"
	"testing"

	"postbag/api"
	"postbag/model"
	"postbag/parse"
	"postbag/scope"
	"postbag/value"
)

func integer(n int) api.Value { return api.Value{Kind: api.ValInt, N: n} }

func atom(n int) api.Value { return api.Value{Kind: api.ValAtom, N: n} }

func pid(n int) api.Value { return api.Value{Kind: api.ValPid, N: n} }

func tuple(parts ...api.Value) api.Value { return api.Value{Kind: api.ValTuple, Args: parts} }

// integers is a list of them.
func integers(l ...int) []api.Value {
	var values []api.Value
	for _, n := range l {
		values = append(values, integer(n))
	}
	return values
}

// texts tells values' texts, with blanks between them.
func texts(l []api.Value) string {
	s := ""
	for i, v := range l {
		if i > 0 {
			s += " "
		}
		s += value.Text(v)
	}
	return s
}

// laid is the tree of a program's text.
func laid(t *testing.T, src string) api.Program {
	t.Helper()
	p, at, e := parse.Program([]byte(src))
	if e != api.OK {
		t.Fatalf("%q: %d at %d", src, int(e), at)
	}
	return p
}

// begun is the model of a program's text.
func begun(t *testing.T, src string) *model.Model {
	t.Helper()
	m, e := model.New(laid(t, src))
	if e != api.OK || m == nil {
		t.Fatalf("%q: %d", src, int(e))
	}
	return m
}

// expr is the tree of an expression's text.
func expr(t *testing.T, src string) api.Expr {
	t.Helper()
	e, at, f := parse.Expr([]byte(src))
	if f != api.OK {
		t.Fatalf("%q: %d at %d", src, int(f), at)
	}
	return e
}

// pattern is the tree of a pattern's text.
func pattern(t *testing.T, src string) api.Pattern {
	t.Helper()
	return laid(t, "actor A() { receive { "+src+" { stop } } } main A()").Defs[0].Body.Arms[0].Pattern
}

// does does a move that tells nothing.
func does(t *testing.T, m *model.Model, kind, actor int, want api.Errno) {
	t.Helper()
	before := m.Key()
	v, tells, e := m.Do(model.Move{Kind: kind, Actor: actor})
	if e != want || tells || value.Text(v) != "{}" {
		t.Errorf("move %d of %d: %s, %v, %d, not %d", kind, actor, value.Text(v), tells, int(e), int(want))
	}
	if e != api.OK && m.Key() != before {
		t.Errorf("move %d of %d: done with an error", kind, actor)
	}
}

// runs runs an actor so often; nothing is told.
func runs(t *testing.T, m *model.Model, actor, times int) {
	t.Helper()
	for range times {
		does(t, m, model.Run, actor, api.OK)
	}
}

// tells runs an actor, which tells a value.
func tells(t *testing.T, m *model.Model, actor int, want string) {
	t.Helper()
	v, told, e := m.Do(model.Move{Kind: model.Run, Actor: actor})
	if e != api.OK || !told || value.Text(v) != want {
		t.Errorf("%d tells %s, %v, %d, not %s", actor, value.Text(v), told, int(e), want)
	}
}

// arrives has so many messages arrive.
func arrives(t *testing.T, m *model.Model, actor, times int) {
	t.Helper()
	for range times {
		does(t, m, model.Arrive, actor, api.OK)
	}
}

// stands holds all that is told of an actor against what it has to be: what is next, its Args, its messages.
func stands(t *testing.T, m *model.Model, actor, next int, args, way, box string) {
	t.Helper()
	if n := m.Next(actor); n != next {
		t.Errorf("%d: %d is next, not %d", actor, n, next)
	}
	if s := texts(m.Args(actor)); s != args {
		t.Errorf("%d: Args %q, not %q", actor, s, args)
	}
	if s := texts(m.Way(actor)); s != way {
		t.Errorf("%d: Way %q, not %q", actor, s, way)
	}
	if s := texts(m.Box(actor)); s != box {
		t.Errorf("%d: Box %q, not %q", actor, s, box)
	}
	if n := m.Waiting(actor); n != len(m.Way(actor))+len(m.Box(actor)) {
		t.Errorf("%d: %d wait", actor, n)
	}
}

// row tells numbers that look thrown, the same ones each time.
type row uint64

func (r *row) next(n int) int {
	*r = *r*6364136223846793005 + 1442695040888963407
	return int(uint64(*r) >> 33 % uint64(n))
}

func one[T any](r *row, l ...T) T { return l[r.next(len(l))] }

// some is a list of from one number on up to another one of parts.
func some[T any](r *row, from, to int, part func() T) []T {
	var l []T
	for range from + r.next(to-from+1) {
		l = append(l, part())
	}
	return l
}

// grown is a thrown program whose names are there. What it sends often fits somewhere.
type grown struct {
	row
	defs []api.Def // their Names and Params
	made int       // how many names there are
}

func (g *grown) fresh(in []string) string {
	for {
		g.made++
		if s := one(&g.row, "v", "a", "x") + strconv.Itoa(g.made%9); !slices.Contains(in, s) {
			return s
		}
	}
}

func (g *grown) atom() string { return one(&g.row, "a", "b", "c") }

func (g *grown) expr(in []string, deep int) api.Expr {
	e := api.Expr{Kind: one(&g.row, 1, 2, 3, 3, 3, 4, 5, 6, 6), At: g.next(100)}
	if deep < 2 {
		e.Kind = 1 + g.next(4)
	}
	less := func() api.Expr { return g.expr(in, deep-1) }
	switch e.Kind {
	case api.ExprInt:
		e.N = one(&g.row, 0, 1, 2, 3, 1<<61-1)
	case api.ExprAtom:
		e.Name = g.atom()
	case api.ExprVar:
		if len(in) == 0 {
			return api.Expr{Kind: api.ExprSelf}
		}
		e.Name = one(&g.row, in...)
	case api.ExprTuple:
		e.Args = some(&g.row, 1, 2, less)
	case api.ExprBin:
		e.Name, e.Args = one(&g.row, "+", "-", "*", "<", "=="), []api.Expr{less(), less()}
	}
	return e
}

func (g *grown) actor(in []string) (string, []api.Expr) {
	d := one(&g.row, g.defs...)
	return d.Name, some(&g.row, len(d.Params), len(d.Params), func() api.Expr { return g.expr(in, 2) })
}

func (g *grown) pattern(in []string, deep int) (api.Pattern, []string) {
	p := api.Pattern{Kind: one(&g.row, 1, 2, 3, 4, 4, 5), At: g.next(100)}
	if deep < 2 {
		p.Kind = 1 + g.next(4)
	}
	switch p.Kind {
	case api.PatInt:
		p.N = g.next(4) - 1
	case api.PatAtom:
		p.Name = g.atom()
	case api.PatVar:
		p.Name = g.fresh(in)
		in = append(slices.Clip(in), p.Name)
	case api.PatTuple:
		for range 1 + g.next(2) {
			var part api.Pattern
			part, in = g.pattern(in, deep-1)
			p.Args = append(p.Args, part)
		}
	}
	return p, in
}

func (g *grown) stmt(in []string) (api.Stmt, []string) {
	s := api.Stmt{Kind: one(&g.row, 1, 2, 3, 3, 3, 4), At: g.next(100)}
	arg := func() api.Expr { return g.expr(in, 3) }
	switch s.Kind {
	case api.StmtSpawn:
		s.Actor, s.Args = g.actor(in)
	case api.StmtSend:
		to := arg()
		if g.next(3) > 0 {
			to = api.Expr{Kind: api.ExprSelf}
		}
		if len(in) > 0 && g.next(2) == 0 {
			to = api.Expr{Kind: api.ExprVar, Name: one(&g.row, in...)}
		}
		s.Args = []api.Expr{to, arg()}
	default:
		s.Args = []api.Expr{arg()}
	}
	if s.Kind == api.StmtLet || s.Kind == api.StmtSpawn {
		s.Name = g.fresh(in)
		in = append(slices.Clip(in), s.Name)
	}
	return s, in
}

func (g *grown) body(in []string, deep int) api.Body {
	b := api.Body{Kind: one(&g.row, 1, 2, 3, 4, 4, 4), At: g.next(100)}
	if deep < 2 {
		b.Kind = one(&g.row, 1, 1, 2)
	}
	for range g.next(3) {
		var s api.Stmt
		s, in = g.stmt(in)
		b.Stmts = append(b.Stmts, s)
	}
	less := func() api.Body { return g.body(in, deep-1) }
	switch b.Kind {
	case api.EndBecome:
		b.Actor, b.Args = g.actor(in)
	case api.EndIf:
		b.Args, b.Parts = []api.Expr{g.expr(in, 3)}, []api.Body{less(), less()}
	case api.EndReceive:
		b.Arms = some(&g.row, 1, 3, func() api.Arm {
			p, in := g.pattern(in, 3)
			return api.Arm{Pattern: p, Guard: some(&g.row, 0, 1, func() api.Expr { return g.expr(in, 2) }), Body: g.body(in, deep-1)}
		})
		if g.next(2) == 0 {
			b.Late, b.After, b.Parts = true, g.next(9), []api.Body{less()}
		}
	}
	return b
}

func (g *grown) program() api.Program {
	g.defs = nil
	var names []string
	for range 1 + g.next(3) {
		d := api.Def{Name: g.fresh(names)}
		names = append(names, d.Name)
		for range g.next(3) {
			d.Params = append(d.Params, g.fresh(d.Params))
		}
		g.defs = append(g.defs, d)
	}
	p := api.Program{}
	for _, d := range g.defs {
		d.Body = g.body(d.Params, 3)
		p.Defs = append(p.Defs, d)
	}
	p.Main, p.Args = g.actor(nil)
	return p
}

// thrown are so many programs whose names are there.
func thrown(t *testing.T, seed row, n int) []api.Program {
	t.Helper()
	g := grown{row: seed}
	var l []api.Program
	for range n {
		p := g.program()
		if at, e := scope.Check(p); e != api.OK {
			t.Fatalf("%d at %d: %+v", int(e), at, p)
		}
		l = append(l, p)
	}
	return l
}

// programs are some that were written for what comes of them.
func programs(t *testing.T) []api.Program {
	t.Helper()
	var l []api.Program
	for _, src := range []string{
		"actor A() { out 1; stop } main A()",
		"actor M() { let a = spawn S(self, 0); let b = spawn S(self, 10); become R() } actor S(to, n) { send to, {'v, n}; send to, {'v, n + 1}; stop } actor R() { receive { {'v, x} { out x; become R() } } } main M()",
		"actor A(n) { let b = spawn B(self); send b, n; become L(b) } actor L(b) { receive { x { out x; send b, x + 1; become L(b) } } } actor B(a) { receive { x { out {x}; send a, x; become B(a) } } } main A(0)",
		"actor A() { send self, 5; send self, 6; receive { x when 5 < x { out x; stop } } } main A()",
		"actor M() { let a = spawn W(self, 2); become R(0) } actor W(r, n) { if 0 < n { send r, n; become W(r, n - 1) } else { stop } } actor R(k) { receive { x { out x; become R(k) } after 3 { out 'late; if k < 2 { become R(k + 1) } else { stop } } } } main M()",
		"actor M() { let s = spawn S(0); let a = spawn C(s); let b = spawn C(s); stop } actor S(n) { receive { {'inc, who} { send who, n + 1; become S(n + 1) } } } actor C(s) { send s, {'inc, self}; receive { v { out v; stop } } } main M()",
		"actor A(n) { if n < 3 { let b = spawn A(n + 1); send b, self; receive { 'done { out n; stop } p { out {n, p}; send p, 'done; stop } } } else { stop } } main A(0)",
		"actor A(x) { out x; become A({x, x}) } main A(0)",
		"actor M() { let b = spawn B(0); let s = spawn S(b, 10); become S(b, 0) } actor B(n) { receive { x { out x; if n < 1 { become B(n + 1) } else { stop } } after 2 { out 'late; stop } } } actor S(b, n) { send b, n; become S(b, n + 1) } main M()",
		"actor A() { let a = spawn A(); send a, {self, a}; receive { {x, y} { out x; out y; stop } after 0 { stop } } } main A()",
	} {
		l = append(l, laid(t, src))
	}
	return l
}
