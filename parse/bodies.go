package parse

import "postbag/api"

func (p *parser) program() api.Program {
	t := api.Program{Defs: []api.Def{p.def()}}
	for p.spelled() == "actor" {
		t.Defs = append(t.Defs, p.def())
	}
	p.must("main")
	t.At = p.word().At
	t.Main, t.Args = p.actor()
	return t
}

func (p *parser) def() api.Def {
	d := api.Def{At: p.word().At}
	p.must("actor")
	d.Name = p.name()
	d.Params = params(p, p.name)
	d.Body = p.body()
	return d
}

// actor parses an actor's name, with what it is made of.
func (p *parser) actor() (string, []api.Expr) {
	name := p.name()
	return name, params(p, p.expr)
}

func (p *parser) body() api.Body {
	return nested(p, "{", "}", p.inside)
}

// inside parses what stands between a body's brackets.
func (p *parser) inside() api.Body {
	var stmts []api.Stmt
	for p.states() {
		stmts = append(stmts, p.stmt())
	}
	b := p.end()
	b.Stmts = stmts
	return b
}

// states tells whether the next word begins a statement.
func (p *parser) states() bool {
	switch p.spelled() {
	case "let", "send", "out":
		return true
	}
	return false
}

func (p *parser) stmt() api.Stmt {
	s := api.Stmt{At: p.word().At}
	switch p.step().Text {
	case "let":
		s.Kind, s.Name = api.StmtLet, p.name()
		p.must("=")
		if p.may("spawn") {
			s.Kind = api.StmtSpawn
			s.Actor, s.Args = p.actor()
			break
		}
		s.Args = []api.Expr{p.expr()}
	case "send":
		s.Kind = api.StmtSend
		to := p.expr()
		p.must(",")
		s.Args = []api.Expr{to, p.expr()}
	default:
		s.Kind = api.StmtOut
		s.Args = []api.Expr{p.expr()}
	}
	p.must(";")
	return s
}

func (p *parser) end() api.Body {
	b := api.Body{At: p.word().At}
	switch p.spelled() {
	case "become":
		p.step()
		b.Kind = api.EndBecome
		b.Actor, b.Args = p.actor()
	case "stop":
		p.step()
		b.Kind = api.EndStop
	case "if":
		p.either(&b)
	case "receive":
		p.receive(&b)
	default:
		p.refuse()
	}
	return b
}

// either parses an if. There is no way on from that word without a body, so it is the one to be
// refused where none may stand open any more; and so is receive.
func (p *parser) either(b *api.Body) {
	p.deeper()
	p.must("if")
	b.Kind = api.EndIf
	b.Args = []api.Expr{p.expr()}
	then := p.body()
	p.must("else")
	b.Parts = []api.Body{then, p.body()}
}

func (p *parser) receive(b *api.Body) {
	p.deeper()
	p.must("receive")
	b.Kind = api.EndReceive
	p.must("{")
	for p.matches() {
		b.Arms = append(b.Arms, p.arm())
	}
	if p.may("after") {
		b.Late, b.After = true, p.of(api.TokInt).N
		b.Parts = []api.Body{p.body()}
	}
	if len(b.Arms) == 0 && !b.Late {
		p.refuse()
	}
	p.must("}")
}

// matches tells whether the next word may begin an arm: all may but those that stand behind the last one.
func (p *parser) matches() bool {
	return p.word().Kind != 0 && p.spelled() != "after" && p.spelled() != "}"
}

func (p *parser) arm() api.Arm {
	a := api.Arm{Pattern: p.pattern()}
	if p.may("when") {
		a.Guard = []api.Expr{p.expr()}
	}
	a.Body = p.body()
	return a
}
