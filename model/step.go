package model

import (
	"slices"

	"postbag/api"
)

// work is what a step does.
type work int

const (
	letting work = iota
	spawning
	sending
	telling
	becoming
	stopping
	branching
	receiving
)

// next tells what Next tells of a work.
func (w work) next() int {
	switch w {
	case spawning:
		return Spawn
	case sending:
		return Send
	case telling:
		return Out
	case receiving:
		return Receive
	case stopping:
		return Stop
	}
	return Silent
}

// step is a statement, or an end, with what is done behind it.
type step struct {
	id    int // of each step that is unlike another one
	work  work
	name  string // of the variable that it binds
	actor string // the Def's
	args  []api.Expr
	then  []*step // the step behind a statement; the first ones of an end's Parts
	arms  []arm
	late  bool
	after int
}

// arm is one of a receive's.
type arm struct {
	pattern api.Pattern
	guard   []api.Expr
	then    *step
}

// kind is a Def: what its actors begin with.
type kind struct {
	params []string
	first  *step
}

// kindsOf tells the Defs of a program whose names are there.
func kindsOf(p api.Program) map[string]kind {
	b := book{}
	kinds := map[string]kind{}
	for _, d := range p.Defs {
		kinds[d.Name] = kind{slices.Clone(d.Params), b.body(d.Body)}
	}
	return kinds
}

// book has steps by their texts: those that are alike, with all that may come behind them, are one.
type book map[string]*step

// step tells the one step that is so.
func (b book) step(s step) *step {
	text := s.text()
	if b[text] == nil {
		s.id = len(b)
		b[text] = &s
	}
	return b[text]
}

// body tells a body's first step. A program's lists are copied: the model goes on, whatever becomes of them.
func (b book) body(x api.Body) *step {
	first := b.end(x)
	for _, s := range slices.Backward(x.Stmts) {
		first = b.stmt(s, first)
	}
	return first
}

func (b book) stmt(x api.Stmt, behind *step) *step {
	s := step{name: x.Name, actor: x.Actor, args: each(x.Args, copied), then: []*step{behind}}
	switch x.Kind {
	case api.StmtLet:
		s.work = letting
	case api.StmtSpawn:
		s.work = spawning
	case api.StmtSend:
		s.work = sending
	case api.StmtOut:
		s.work = telling
	}
	return b.step(s)
}

func (b book) end(x api.Body) *step {
	s := step{actor: x.Actor, args: each(x.Args, copied), then: each(x.Parts, b.body), arms: each(x.Arms, b.arm), late: x.Late, after: x.After}
	switch x.Kind {
	case api.EndBecome:
		s.work = becoming
	case api.EndStop:
		s.work = stopping
	case api.EndIf:
		s.work = branching
	case api.EndReceive:
		s.work = receiving
	}
	return b.step(s)
}

func (b book) arm(x api.Arm) arm {
	return arm{copiedPattern(x.Pattern), each(x.Guard, copied), b.body(x.Body)}
}

func copied(e api.Expr) api.Expr {
	e.Args = each(e.Args, copied)
	return e
}

func copiedPattern(p api.Pattern) api.Pattern {
	p.Args = each(p.Args, copiedPattern)
	return p
}

// each tells what something makes of each part of a list.
func each[A, B any](list []A, one func(A) B) []B {
	var made []B
	for _, part := range list {
		made = append(made, one(part))
	}
	return made
}
