package scope

import "postbag/api"

// What a part of a program says of a name, or of what is in scope.
const (
	defines = iota // there is an actor of that name, with so many Params
	makes          // an actor of that name is made, of so many Args
	binds          // a variable gets that name
	uses           // a variable of that name is asked
	isAtom         // an atom has that name
	opens          // what is bound from here on
	shuts          // is in scope up to here
)

// mention is what a part says of a name, and the place that is told if it is wrong.
type mention struct {
	kind, at int
	name     string
	args     int
}

// mentions yields what all parts of a tree that may be say, in the order in which they are asked.
func mentions(p api.Program) func(yield func(mention) bool) {
	return func(yield func(mention) bool) {
		w := walker{yield}
		_ = each(p.Defs, w.heading) && each(p.Defs, w.def) && w.main(p)
	}
}

// walker goes through a tree's parts. What its methods tell is whether to go on.
type walker struct {
	yield func(mention) bool
}

// each goes through a list's parts, as long as they tell to go on.
func each[T any](list []T, one func(T) bool) bool {
	for _, part := range list {
		if !one(part) {
			return false
		}
	}
	return true
}

// within goes through parts of which nothing is in scope behind them.
func (w walker) within(parts func() bool) bool {
	return w.yield(mention{kind: opens}) && parts() && w.yield(mention{kind: shuts})
}

// params binds those of a Def.
func (w walker) params(d api.Def) bool {
	return each(d.Params, func(name string) bool {
		return w.yield(mention{kind: binds, at: d.At, name: name})
	})
}

// heading goes through a Def without its body.
func (w walker) heading(d api.Def) bool {
	return w.yield(mention{kind: defines, at: d.At, name: d.Name, args: len(d.Params)}) &&
		w.within(func() bool { return w.params(d) })
}

func (w walker) def(d api.Def) bool {
	return w.within(func() bool { return w.params(d) && w.body(d.Body) })
}

func (w walker) main(p api.Program) bool {
	return each(p.Args, w.expr) && w.yield(mention{kind: makes, at: p.At, name: p.Main, args: len(p.Args)})
}

func (w walker) body(b api.Body) bool {
	return w.within(func() bool {
		return each(b.Stmts, w.stmt) && each(b.Args, w.expr) && w.become(b) && each(b.Arms, w.arm) && each(b.Parts, w.body)
	})
}

func (w walker) become(b api.Body) bool {
	return b.Kind != api.EndBecome || w.yield(mention{kind: makes, at: b.At, name: b.Actor, args: len(b.Args)})
}

func (w walker) stmt(s api.Stmt) bool {
	if !each(s.Args, w.expr) {
		return false
	}
	switch s.Kind {
	case api.StmtSpawn:
		if !w.yield(mention{kind: makes, at: s.At, name: s.Actor, args: len(s.Args)}) {
			return false
		}
		fallthrough
	case api.StmtLet:
		return w.yield(mention{kind: binds, at: s.At, name: s.Name})
	}
	return true
}

func (w walker) arm(a api.Arm) bool {
	return w.within(func() bool {
		return w.pattern(a.Pattern) && each(a.Guard, w.expr) && w.body(a.Body)
	})
}

func (w walker) pattern(p api.Pattern) bool {
	switch p.Kind {
	case api.PatVar:
		return w.yield(mention{kind: binds, at: p.At, name: p.Name})
	case api.PatAtom:
		return w.yield(mention{kind: isAtom, at: p.At, name: p.Name})
	}
	return each(p.Args, w.pattern)
}

func (w walker) expr(e api.Expr) bool {
	switch e.Kind {
	case api.ExprVar:
		return w.yield(mention{kind: uses, at: e.At, name: e.Name})
	case api.ExprAtom:
		return w.yield(mention{kind: isAtom, at: e.At, name: e.Name})
	}
	return each(e.Args, w.expr)
}
