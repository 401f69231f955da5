package scope_test

import (
	"slices"
	"sort"

	"postbag/api"
	"postbag/lex"
	"postbag/tree"
)

// What is wrong with a program, told a second time: all that is wrong is listed, in order, each scope being a list of its own.

type fault struct {
	at int
	e  api.Errno
}

type lister struct {
	p      api.Program
	faults []fault
}

func (l *lister) wrong(is bool, at int, e api.Errno) {
	if is {
		l.faults = append(l.faults, fault{at, e})
	}
}

func (l *lister) exprs(args []api.Expr, in []string) {
	for _, e := range args {
		l.wrong(e.Kind == api.ExprVar && !slices.Contains(in, e.Name), e.At, api.ErrName)
		l.exprs(e.Args, in)
	}
}

func (l *lister) actor(name string, args, at int) {
	for _, d := range l.p.Defs {
		if d.Name == name {
			l.wrong(len(d.Params) != args, at, api.ErrArity)
			return
		}
	}
	l.wrong(true, at, api.ErrName)
}

// binding is a scope with one name more.
func (l *lister) binding(name string, at int, in []string) []string {
	l.wrong(slices.Contains(in, name), at, api.ErrTwice)
	return append(slices.Clip(slices.Clone(in)), name)
}

func (l *lister) pattern(p api.Pattern, in []string) []string {
	if p.Kind == api.PatVar {
		in = l.binding(p.Name, p.At, in)
	}
	for _, q := range p.Args {
		in = l.pattern(q, in)
	}
	return in
}

func (l *lister) body(b api.Body, in []string) {
	for _, s := range b.Stmts {
		l.exprs(s.Args, in)
		if s.Kind == api.StmtSpawn {
			l.actor(s.Actor, len(s.Args), s.At)
		}
		if s.Kind == api.StmtSpawn || s.Kind == api.StmtLet {
			in = l.binding(s.Name, s.At, in)
		}
	}
	l.exprs(b.Args, in)
	if b.Kind == api.EndBecome {
		l.actor(b.Actor, len(b.Args), b.At)
	}
	for _, a := range b.Arms {
		inner := l.pattern(a.Pattern, in)
		l.exprs(a.Guard, inner)
		l.body(a.Body, inner)
	}
	for _, part := range b.Parts {
		l.body(part, in)
	}
}

// faultsOf tells all that is wrong with a tree that may be.
func faultsOf(p api.Program) []fault {
	l := lister{p: p}
	for i, d := range p.Defs {
		for _, other := range p.Defs[:i] {
			l.wrong(other.Name == d.Name, d.At, api.ErrTwice)
		}
		for k, name := range d.Params {
			l.wrong(slices.Contains(d.Params[:k], name), d.At, api.ErrTwice)
		}
	}
	for _, d := range p.Defs {
		l.body(d.Body, d.Params)
	}
	l.exprs(p.Args, nil)
	l.actor(p.Main, len(p.Args), p.At)
	return l.faults
}

// atomsOf tells all atoms in the text of a tree that may be.
func atomsOf(p api.Program) []string {
	words, _, _ := lex.Tokens([]byte(tree.Print(p)))
	var l []string
	for _, w := range words {
		if w.Kind == api.TokAtom {
			l = append(l, w.Text)
		}
	}
	sort.Strings(l)
	return slices.Compact(l)
}
