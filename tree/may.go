package tree

import (
	"postbag/api"
	"postbag/lex"
)

// may tells whether a part may be, as far as its head tells.
func (h head) may() bool {
	switch h.sort {
	case ofProgram:
		return within(h.defs, 1, api.MaxActors) && h.callsActor(h.name)
	case ofDef:
		return lex.Name(h.name) && h.params <= api.MaxParams
	case ofParam:
		return lex.Name(h.name)
	case ofBody:
		return h.mayEnd()
	case ofStmt:
		return h.mayState()
	case ofArm:
		return h.args <= 1
	case ofExpr:
		return h.mayReckon()
	}
	return h.mayMatch()
}

// callsActor tells whether an actor of that name may be made of the part's Args.
func (h head) callsActor(name string) bool {
	return lex.Name(name) && h.args <= api.MaxParams
}

// mayEnd tells whether a body's head may be. It is held against a head that has
// only what its kind has; so do the three that follow.
func (h head) mayEnd() bool {
	has := head{sort: h.sort, kind: h.kind, stmts: h.stmts}
	fits := true
	switch h.kind {
	case api.EndBecome:
		has.actor, has.args = h.actor, h.args
		fits = h.callsActor(h.actor)
	case api.EndStop:
	case api.EndIf:
		has.args, has.parts = 1, 2
	case api.EndReceive:
		has.arms = h.arms
		fits = h.late || h.arms > 0
		if h.late {
			has.late, has.n, has.parts = true, h.n, 1
			fits = within(h.n, 0, api.MaxInt)
		}
	default:
		return false
	}
	return fits && h == has
}

// mayState tells whether a statement's head may be.
func (h head) mayState() bool {
	has := head{sort: h.sort, kind: h.kind}
	fits := true
	switch h.kind {
	case api.StmtLet:
		has.name, has.args = h.name, 1
		fits = lex.Name(h.name)
	case api.StmtSpawn:
		has.name, has.actor, has.args = h.name, h.actor, h.args
		fits = lex.Name(h.name) && h.callsActor(h.actor)
	case api.StmtSend:
		has.args = 2
	case api.StmtOut:
		has.args = 1
	default:
		return false
	}
	return fits && h == has
}

// mayReckon tells whether an expression's head may be.
func (h head) mayReckon() bool {
	has := head{sort: h.sort, kind: h.kind}
	fits := true
	switch h.kind {
	case api.ExprInt:
		has.n = h.n
		fits = within(h.n, 0, api.MaxInt)
	case api.ExprAtom, api.ExprVar:
		has.name = h.name
		fits = lex.Name(h.name)
	case api.ExprSelf:
	case api.ExprTuple:
		has.args = h.args
		fits = within(h.args, 1, api.MaxTuple)
	case api.ExprBin:
		has.name, has.args = h.name, 2
		fits = reckons(h.name)
	default:
		return false
	}
	return fits && h == has
}

// mayMatch tells whether a pattern's head may be.
func (h head) mayMatch() bool {
	has := head{sort: h.sort, kind: h.kind}
	fits := true
	switch h.kind {
	case api.PatAny:
	case api.PatInt:
		has.n = h.n
		fits = within(h.n, -api.MaxInt, api.MaxInt)
	case api.PatAtom, api.PatVar:
		has.name = h.name
		fits = lex.Name(h.name)
	case api.PatTuple:
		has.args = h.args
		fits = within(h.args, 1, api.MaxTuple)
	default:
		return false
	}
	return fits && h == has
}

// reckons tells whether a sign reckons with two expressions.
func reckons(sign string) bool {
	switch sign {
	case "+", "-", "*", "<", "==":
		return true
	}
	return false
}

// within tells whether a number is from one on up to another one.
func within(n, from, to int) bool { return from <= n && n <= to }
