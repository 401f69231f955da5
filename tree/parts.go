package tree

import "postbag/api"

// The sorts of parts.
const (
	ofProgram = iota + 1
	ofDef
	ofParam
	ofBody
	ofStmt
	ofArm
	ofExpr
	ofPattern
)

// head is a part without what stands in it, and without its place: of its lists there is left how long they are.
type head struct {
	sort, kind  int
	name, actor string
	n           int // its N, or After
	late        bool

	defs, params, stmts, args, parts, arms int
}

func headOfProgram(p api.Program) head {
	return head{sort: ofProgram, name: p.Main, defs: len(p.Defs), args: len(p.Args)}
}

func headOfDef(d api.Def) head {
	return head{sort: ofDef, name: d.Name, params: len(d.Params)}
}

func headOfParam(name string) head {
	return head{sort: ofParam, name: name}
}

func headOfBody(b api.Body) head {
	return head{sort: ofBody, kind: b.Kind, actor: b.Actor, n: b.After, late: b.Late,
		stmts: len(b.Stmts), args: len(b.Args), parts: len(b.Parts), arms: len(b.Arms)}
}

func headOfStmt(s api.Stmt) head {
	return head{sort: ofStmt, kind: s.Kind, name: s.Name, actor: s.Actor, args: len(s.Args)}
}

func headOfArm(a api.Arm) head {
	return head{sort: ofArm, args: len(a.Guard)}
}

func headOfExpr(e api.Expr) head {
	return head{sort: ofExpr, kind: e.Kind, name: e.Name, n: e.N, args: len(e.Args)}
}

func headOfPattern(p api.Pattern) head {
	return head{sort: ofPattern, kind: p.Kind, name: p.Name, n: p.N, args: len(p.Args)}
}

// counts tells whether a part counts for a tree's Size.
func (h head) counts() bool { return h.sort != ofProgram && h.sort != ofArm }

// parts yields the head of each part of a program, ahead of those that stand in it, with its level.
// A statement and an arm stand at their body's level. Nothing is yielded from below the level MaxDepth + 1.
func parts(p api.Program) func(yield func(int, head) bool) {
	return func(yield func(int, head) bool) {
		const lowest = api.MaxDepth + 1
		var expr func(e api.Expr, level int) bool
		expr = func(e api.Expr, level int) bool {
			return level > lowest || yield(level, headOfExpr(e)) && each(e.Args, level+1, expr)
		}
		var pattern func(p api.Pattern, level int) bool
		pattern = func(p api.Pattern, level int) bool {
			return level > lowest || yield(level, headOfPattern(p)) && each(p.Args, level+1, pattern)
		}
		stmt := func(s api.Stmt, level int) bool {
			return yield(level, headOfStmt(s)) && each(s.Args, level+1, expr)
		}
		var body func(b api.Body, level int) bool
		arm := func(a api.Arm, level int) bool {
			return yield(level, headOfArm(a)) && pattern(a.Pattern, level+1) &&
				each(a.Guard, level+1, expr) && body(a.Body, level+1)
		}
		body = func(b api.Body, level int) bool {
			return level > lowest || yield(level, headOfBody(b)) && each(b.Stmts, level, stmt) &&
				each(b.Args, level+1, expr) && each(b.Parts, level+1, body) && each(b.Arms, level, arm)
		}
		param := func(name string, level int) bool { return yield(level, headOfParam(name)) }
		def := func(d api.Def, level int) bool {
			return yield(level, headOfDef(d)) && each(d.Params, level, param) && body(d.Body, level+1)
		}
		_ = yield(0, headOfProgram(p)) && each(p.Defs, 0, def) && each(p.Args, 1, expr)
	}
}

// each goes through a list's parts, and tells whether it came to their end.
func each[T any](list []T, level int, one func(T, int) bool) bool {
	for _, part := range list {
		if !one(part, level) {
			return false
		}
	}
	return true
}
