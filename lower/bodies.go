package lower

import (
	"postbag/api"
	"postbag/image"
	"postbag/items"
)

// The registers of an actor that is being made.
const (
	made  = 25 // its record
	named = 26 // its word
	gets  = 27 // its next slot
)

// body lays a body. None goes on behind its end.
func (l *lowering) body(b api.Body) {
	bound := l.scope.bound()
	lists := [][]api.Expr{b.Args}
	for _, s := range b.Stmts {
		lists = append(lists, s.Args)
	}
	l.room(lists...)
	for _, s := range b.Stmts {
		l.stmt(s)
	}
	l.end(b)
	l.scope.leave(bound)
}

// reckons lays what reckons some expressions of a statement or an end, for what comes next.
func (l *lowering) reckons(list ...api.Expr) reckoning {
	return l.reckon(list, l.scope.bound(), true)
}

func (l *lowering) stmt(s api.Stmt) {
	first, second := at(s.Args, 0), at(s.Args, 1)
	switch s.Kind {
	case api.StmtLet:
		v := l.reckons(first).told(0, one)
		l.keep(v, l.bind(s.Name))
	case api.StmtSpawn:
		l.spawn(s)
	case api.StmtSend:
		r := l.reckons(first, second)
		l.into(items.First, r.told(0, items.First))
		l.into(items.Second, r.told(1, items.Second))
		l.call("send")
	case api.StmtOut:
		l.into(items.First, l.reckons(first).told(0, items.First))
		l.call("tell")
	}
}

// spawn lays what makes an actor.
func (l *lowering) spawn(s api.Stmt) {
	l.call("new")
	l.Copy(made, items.First)
	l.Copy(named, items.Second)
	if len(s.Args) > 0 {
		l.Number(api.OpAddi, gets, made, items.Offset(image.WSlots))
	}
	for _, e := range s.Args {
		l.into(items.First, l.reckons(e).told(0, items.First))
		l.call("lower.give")
	}
	l.begins(s.Actor)
	l.keep(named, l.bind(s.Name))
}

// begins lays what lets the actor that is being made begin.
func (l *lowering) begins(kind string) {
	l.Addr(items.First, labelOf(l.kind(kind)))
	l.call("lower.begin")
}

// arguments lays what gives the first slots the values of expressions. All are reckoned first: they may hang on what those slots have.
func (l *lowering) arguments(list []api.Expr) {
	r := l.reckon(list, max(l.scope.bound(), len(list)), true)
	for slot := range list {
		l.keep(r.told(slot, one), slot)
	}
}

func (l *lowering) end(b api.Body) {
	switch b.Kind {
	case api.EndBecome:
		l.arguments(b.Args)
		l.Jump(items.Zero, turnOf(l.kind(b.Actor)))
	case api.EndIf:
		other := l.label()
		l.reckons(at(b.Args, 0)).unless(0, other)
		l.body(at(b.Parts, 0))
		l.Label(other)
		l.body(at(b.Parts, 1))
	case api.EndReceive:
		l.receive(b)
	default:
		l.Jump(items.Zero, "stop")
	}
}
