package tree_test

import (
	"strings"
	"testing"

	"postbag/api"
	"postbag/tree"
)

func number(n int) api.Expr { return api.Expr{Kind: api.ExprInt, N: n} }

func atom(name string) api.Expr { return api.Expr{Kind: api.ExprAtom, Name: name} }

func variable(name string) api.Expr { return api.Expr{Kind: api.ExprVar, Name: name} }

func self() api.Expr { return api.Expr{Kind: api.ExprSelf} }

func tuple(args ...api.Expr) api.Expr { return api.Expr{Kind: api.ExprTuple, Args: args} }

func reckon(a api.Expr, sign string, b api.Expr) api.Expr {
	return api.Expr{Kind: api.ExprBin, Name: sign, Args: []api.Expr{a, b}}
}

func anything() api.Pattern { return api.Pattern{Kind: api.PatAny} }

func isNumber(n int) api.Pattern { return api.Pattern{Kind: api.PatInt, N: n} }

func isAtom(name string) api.Pattern { return api.Pattern{Kind: api.PatAtom, Name: name} }

func binds(name string) api.Pattern { return api.Pattern{Kind: api.PatVar, Name: name} }

func isTuple(args ...api.Pattern) api.Pattern { return api.Pattern{Kind: api.PatTuple, Args: args} }

func let(name string, e api.Expr) api.Stmt {
	return api.Stmt{Kind: api.StmtLet, Name: name, Args: []api.Expr{e}}
}

func spawn(name, actor string, args ...api.Expr) api.Stmt {
	return api.Stmt{Kind: api.StmtSpawn, Name: name, Actor: actor, Args: args}
}

func send(to, what api.Expr) api.Stmt {
	return api.Stmt{Kind: api.StmtSend, Args: []api.Expr{to, what}}
}

func out(e api.Expr) api.Stmt { return api.Stmt{Kind: api.StmtOut, Args: []api.Expr{e}} }

func become(actor string, args ...api.Expr) api.Body {
	return api.Body{Kind: api.EndBecome, Actor: actor, Args: args}
}

func stop(stmts ...api.Stmt) api.Body { return api.Body{Kind: api.EndStop, Stmts: stmts} }

func either(e api.Expr, then, otherwise api.Body) api.Body {
	return api.Body{Kind: api.EndIf, Args: []api.Expr{e}, Parts: []api.Body{then, otherwise}}
}

func receive(arms ...api.Arm) api.Body { return api.Body{Kind: api.EndReceive, Arms: arms} }

func late(after int, then api.Body, arms ...api.Arm) api.Body {
	return api.Body{Kind: api.EndReceive, Arms: arms, Late: true, After: after, Parts: []api.Body{then}}
}

func arm(p api.Pattern, b api.Body, guard ...api.Expr) api.Arm {
	return api.Arm{Pattern: p, Guard: guard, Body: b}
}

func def(name string, b api.Body, params ...string) api.Def {
	return api.Def{Name: name, Params: params, Body: b}
}

func program(main string, args []api.Expr, defs ...api.Def) api.Program {
	return api.Program{Defs: defs, Main: main, Args: args}
}

// reckoned is a program of so many expressions.
func reckoned(args ...api.Expr) api.Program { return program("A", args, def("A", stop())) }

// matched is a program with a pattern in it, which stands at the level 2.
func matched(p api.Pattern) api.Program { return ended(receive(arm(p, stop()))) }

// stated is a program with a statement in it.
func stated(s api.Stmt) api.Program { return ended(stop(s)) }

// ended is a program of one body.
func ended(b api.Body) api.Program { return program("A", nil, def("A", b)) }

// letters is a name of n bytes.
func letters(n int) string { return strings.Repeat("a", n) }

// isText holds a tree that may be against its text.
func isText(t *testing.T, p api.Program, want string) {
	t.Helper()
	if !tree.Good(p) {
		t.Errorf("%s may be", want)
	}
	if s := tree.Print(p); s != want {
		t.Errorf("%s, not %s", s, want)
	}
}

// isGood tells of a tree that it may be, and has a text.
func isGood(t *testing.T, what string, p api.Program) {
	t.Helper()
	if !tree.Good(p) || tree.Print(p) == "" {
		t.Errorf("%s: may be", what)
	}
}

// isBad tells of a tree that it may not be, and has none.
func isBad(t *testing.T, what string, p api.Program) {
	t.Helper()
	if tree.Good(p) || tree.Print(p) != "" {
		t.Errorf("%s: may not be", what)
	}
}

// row tells numbers that look thrown, the same ones each time.
type row uint64

func (r *row) next(n int) int {
	*r = *r*6364136223846793005 + 1442695040888963407
	return int(uint64(*r) >> 33 % uint64(n))
}

func one[T any](r *row, l ...T) T { return l[r.next(len(l))] }

// some is a list of from one number on up to another one of parts.
func some[T any](r *row, from, to int, part func() T) []T {
	var l []T
	for range from + r.next(to-from+1) {
		l = append(l, part())
	}
	return l
}

func (r *row) name() string { return one(r, "a", "b", "x", "A", "_a", "a1", letters(32)) }

func (r *row) number() int { return one(r, 0, 1, 2, 12, 1<<32, api.MaxInt-1, api.MaxInt) }

// expr is an expression that may be, of at most so many levels.
func (r *row) expr(deep int) api.Expr {
	kind := 1 + r.next(6)
	if deep < 2 {
		kind = 1 + r.next(4)
	}
	less := func() api.Expr { return r.expr(deep - 1) }
	switch kind {
	case api.ExprInt:
		return number(r.number())
	case api.ExprAtom:
		return atom(r.name())
	case api.ExprVar:
		return variable(r.name())
	case api.ExprTuple:
		return tuple(some(r, 1, 4, less)...)
	case api.ExprBin:
		return reckon(less(), one(r, "+", "-", "*", "<", "=="), less())
	}
	return self()
}

// pattern is a pattern that may be, of at most so many levels.
func (r *row) pattern(deep int) api.Pattern {
	kind := 1 + r.next(5)
	if deep < 2 {
		kind = 1 + r.next(4)
	}
	switch kind {
	case api.PatInt:
		return isNumber(one(r, 1, -1) * r.number())
	case api.PatAtom:
		return isAtom(r.name())
	case api.PatVar:
		return binds(r.name())
	case api.PatTuple:
		return isTuple(some(r, 1, 4, func() api.Pattern { return r.pattern(deep - 1) })...)
	}
	return anything()
}

func (r *row) exprs(deep int) []api.Expr {
	return some(r, 0, r.next(9), func() api.Expr { return r.expr(deep) })
}

func (r *row) stmt() api.Stmt {
	switch r.next(4) {
	case 0:
		return let(r.name(), r.expr(3))
	case 1:
		return spawn(r.name(), r.name(), r.exprs(2)...)
	case 2:
		return send(r.expr(3), r.expr(3))
	}
	return out(r.expr(3))
}

func (r *row) arm(deep int) api.Arm {
	return arm(r.pattern(3), r.body(deep), some(r, 0, 1, func() api.Expr { return r.expr(3) })...)
}

// body is a body that may be, of at most so many levels of bodies.
func (r *row) body(deep int) api.Body {
	kind := 1 + r.next(5)
	if deep < 2 {
		kind = 1 + r.next(2)
	}
	var b api.Body
	switch kind {
	case api.EndBecome:
		b = become(r.name(), r.exprs(2)...)
	case api.EndStop:
		b = stop()
	case api.EndIf:
		b = either(r.expr(3), r.body(deep-1), r.body(deep-1))
	case api.EndReceive:
		b = receive(some(r, 1, 3, func() api.Arm { return r.arm(deep - 1) })...)
	default:
		b = late(r.number(), r.body(deep-1), some(r, 0, 2, func() api.Arm { return r.arm(deep - 1) })...)
	}
	b.Stmts = some(r, 0, 3, r.stmt)
	return b
}

// program is one that may be.
func (r *row) program() api.Program {
	defs := some(r, 1, 3, func() api.Def {
		return def(r.name(), r.body(3), some(r, 0, r.next(9), r.name)...)
	})
	return program(r.name(), r.exprs(3), defs...)
}
