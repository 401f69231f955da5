// Package thrown has programs of actors that look thrown: what the tests of the layers that make code of them have in common.
package thrown

import (
	"strconv"

	"postbag/api"
	"postbag/bench"
)

// A Style is what the actors of a program do.
type Style struct {
	Alone  bool // there is one actor, which neither sends nor receives nor spawns
	Rounds int  // how often an actor becomes another one, at most
	Spawns int  // of 8 statements of later actors, how many spawn
	Deep   int  // how deep expressions are
}

// A maker makes a program.
type maker struct {
	*bench.Row
	Style
	params []int    // of each Def how many
	vars   []string // in scope
	actors []string // those of them that are an actor's word
	spawns bool
}

// Program tells a program whose names are there, and whose actors stop, or wait, some time.
func Program(r *bench.Row, s Style) api.Program {
	m := &maker{Row: r, Style: s}
	for range 1 + r.Next(3) {
		m.params = append(m.params, 1+r.Next(4))
	}
	p := api.Program{Main: name("D", 0), Args: m.args(0, whole(0))}
	for k := range m.params {
		p.Defs = append(p.Defs, m.def(k))
	}
	return p
}

// name tells a name with a number.
func name(head string, n int) string { return head + strconv.Itoa(n) }

func whole(n int) api.Expr { return api.Expr{Kind: api.ExprInt, N: n} }

func named(kind int, s string) api.Expr { return api.Expr{Kind: kind, Name: s} }

func sign(s string, a, b api.Expr) api.Expr {
	return api.Expr{Kind: api.ExprBin, Name: s, Args: []api.Expr{a, b}}
}

// def tells a Def: its first variable counts its rounds, behind the last of which it stops.
func (m *maker) def(k int) api.Def {
	m.vars, m.actors = nil, nil
	var params []string
	for range m.params[k] {
		params = append(params, m.bind())
	}
	m.spawns = !m.Alone && (k == 0 || m.Spawns > 0)
	first := api.Body{Kind: api.EndIf, Args: []api.Expr{sign("<", named(api.ExprVar, params[0]), whole(m.Rounds))}}
	stop := api.Body{Kind: api.EndStop}
	if m.Next(2) == 0 {
		stop.Stmts = []api.Stmt{{Kind: api.StmtOut, Args: []api.Expr{m.value(1)}}}
	}
	first.Parts = []api.Body{m.body(2, k == 0), stop}
	return api.Def{Name: name("D", k), Params: params, Body: first}
}

// bind tells the name of a new variable.
func (m *maker) bind() string {
	v := name("v", len(m.vars))
	m.vars = append(m.vars, v)
	return v
}

// args tells what a Def is given, of which the first one is a count.
func (m *maker) args(k int, first api.Expr) []api.Expr {
	l := []api.Expr{first}
	for range m.params[k] - 1 {
		l = append(l, m.value(m.Deep))
	}
	return l
}

// body tells a body, in which others stand so deep.
func (m *maker) body(deep int, begins bool) api.Body {
	vars, actors := len(m.vars), len(m.actors)
	var b api.Body
	for range m.Next(4) {
		b.Stmts = append(b.Stmts, m.stmt(begins))
	}
	m.end(&b, deep)
	m.vars, m.actors = m.vars[:vars], m.actors[:actors]
	return b
}

func (m *maker) stmt(begins bool) api.Stmt {
	often := m.Spawns
	if begins {
		often = 3
	}
	if m.spawns && m.Next(8) < often {
		return m.spawn()
	}
	n := m.Next(5)
	switch {
	case n < 2:
		return api.Stmt{Kind: api.StmtOut, Args: []api.Expr{m.value(m.Deep)}}
	case n < 4 && !m.Alone:
		return api.Stmt{Kind: api.StmtSend, Args: []api.Expr{m.receiver(), m.message()}}
	}
	e := m.value(m.Deep)
	return api.Stmt{Kind: api.StmtLet, Args: []api.Expr{e}, Name: m.bind()}
}

// later tells a Def, mostly another one than the first: that one makes actors.
func (m *maker) later() int {
	if k := m.Next(len(m.params)); k > 0 || m.Next(4) == 0 {
		return k
	}
	return len(m.params) - 1
}

func (m *maker) spawn() api.Stmt {
	k := m.later()
	s := api.Stmt{Kind: api.StmtSpawn, Actor: name("D", k)}
	s.Args = m.args(k, whole(m.Next(2)))
	s.Name = m.bind()
	m.actors = append(m.actors, s.Name)
	return s
}

// receiver tells to what something is sent: mostly an actor.
func (m *maker) receiver() api.Expr {
	switch n := m.Next(8); {
	case n < 4 && len(m.actors) > 0:
		return named(api.ExprVar, m.actors[m.Next(len(m.actors))])
	case n < 6:
		return api.Expr{Kind: api.ExprSelf}
	}
	return m.value(0)
}

// message tells what is sent: of few shapes, so that patterns fit.
func (m *maker) message() api.Expr {
	pair := func(l ...api.Expr) api.Expr { return api.Expr{Kind: api.ExprTuple, Args: l} }
	switch m.Next(6) {
	case 0:
		return whole(m.Next(3))
	case 1:
		return named(api.ExprAtom, m.atom())
	case 2:
		return pair(named(api.ExprAtom, m.atom()), m.value(1))
	case 3:
		return pair(whole(m.Next(2)), pair(m.value(0), m.value(1)))
	case 4:
		return pair(api.Expr{Kind: api.ExprSelf}, m.value(1))
	}
	return m.value(m.Deep)
}

func (m *maker) atom() string { return []string{"a", "b", "c"}[m.Next(3)] }

// value tells an expression of any kind.
func (m *maker) value(deep int) api.Expr {
	n := m.Next(10)
	switch {
	case n < 3 && deep > 0:
		l := []api.Expr{}
		for range 1 + m.Next(api.MaxTuple) {
			l = append(l, m.value(deep-1))
		}
		return api.Expr{Kind: api.ExprTuple, Args: l}
	case n < 6 && deep > 0:
		return sign([]string{"+", "-", "*", "<", "=="}[m.Next(5)], m.value(deep-1), m.value(deep-1))
	case n < 8 && len(m.vars) > 0:
		return named(api.ExprVar, m.vars[m.Next(len(m.vars))])
	case n == 8:
		return named(api.ExprAtom, m.atom())
	case n == 9 && m.Next(2) == 0:
		return api.Expr{Kind: api.ExprSelf}
	}
	return whole([]int{0, 1, 2, 3, 100, api.MaxInt, api.MaxInt - 1, 1 << 40, 2047, 1 << 30}[m.Next(10)])
}

func (m *maker) end(b *api.Body, deep int) {
	n := m.Next(8)
	switch {
	case n < 2 && deep > 0:
		b.Kind = api.EndIf
		b.Args = []api.Expr{m.value(m.Deep)}
		b.Parts = []api.Body{m.body(deep-1, false), m.body(deep-1, false)}
	case n < 5 && deep > 0 && !m.Alone:
		m.receive(b, deep)
	case n == 5:
		b.Kind = api.EndStop
	default:
		k := m.later()
		b.Kind, b.Actor = api.EndBecome, name("D", k)
		b.Args = m.args(k, sign("+", named(api.ExprVar, m.vars[0]), whole(1)))
	}
}

func (m *maker) receive(b *api.Body, deep int) {
	b.Kind = api.EndReceive
	for range 1 + m.Next(3) {
		vars := len(m.vars)
		a := api.Arm{Pattern: m.pattern(2)}
		if m.Next(3) == 0 {
			a.Guard = []api.Expr{m.value(2)}
		}
		a.Body = m.body(deep-1, false)
		m.vars = m.vars[:vars]
		b.Arms = append(b.Arms, a)
	}
	if b.Late = m.Next(4) > 0; b.Late {
		b.After = m.Next(4)
		b.Parts = []api.Body{m.body(deep-1, false)}
	}
}

// pattern tells a pattern, mostly one that some message fits.
func (m *maker) pattern(deep int) api.Pattern {
	n := m.Next(9)
	switch {
	case n < 4 && deep > 0:
		count := 2
		if m.Next(4) == 0 {
			count = 1 + m.Next(api.MaxTuple)
		}
		p := api.Pattern{Kind: api.PatTuple}
		for range count {
			p.Args = append(p.Args, m.pattern(deep-1))
		}
		return p
	case n < 6:
		return api.Pattern{Kind: api.PatVar, Name: m.bind()}
	case n == 6:
		return api.Pattern{Kind: api.PatAtom, Name: m.atom()}
	case n == 7:
		return api.Pattern{Kind: api.PatInt, N: m.Next(4) - 1}
	}
	return api.Pattern{Kind: api.PatAny}
}
