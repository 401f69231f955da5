package parse

import (
	"slices"

	"postbag/api"
)

func (p *parser) expr() api.Expr {
	e := p.sum()
	if s := p.spelled(); s == "<" || s == "==" {
		e = p.reckon(e, p.sum)
	}
	return e
}

func (p *parser) sum() api.Expr { return p.chain(p.term, "+", "-") }

func (p *parser) term() api.Expr { return p.chain(p.prim, "*") }

// chain parses what has any number of signs, which bind to the left.
func (p *parser) chain(part func() api.Expr, signs ...string) api.Expr {
	e := part()
	for slices.Contains(signs, p.spelled()) {
		e = p.reckon(e, part)
	}
	return e
}

// reckon parses a sign, and what stands to its right.
func (p *parser) reckon(left api.Expr, right func() api.Expr) api.Expr {
	sign := p.step().Text
	return api.Expr{Kind: api.ExprBin, At: left.At, Name: sign, Args: []api.Expr{left, right()}}
}

func (p *parser) prim() api.Expr {
	w := p.word()
	e := api.Expr{At: w.At}
	switch {
	case w.Kind == api.TokInt:
		e.Kind, e.N = api.ExprInt, p.step().N
	case w.Kind == api.TokAtom:
		e.Kind, e.Name = api.ExprAtom, p.step().Text
	case p.may("self"):
		e.Kind = api.ExprSelf
	case p.spelled() == "{":
		e.Kind, e.Args = api.ExprTuple, tuple(p, p.expr)
	case p.spelled() == "(":
		return nested(p, "(", ")", p.expr)
	default:
		e.Kind, e.Name = api.ExprVar, p.name()
	}
	return e
}

func (p *parser) pattern() api.Pattern {
	w := p.word()
	t := api.Pattern{At: w.At}
	switch {
	case p.may("_"):
		t.Kind = api.PatAny
	case p.may("-"):
		t.Kind, t.N = api.PatInt, -p.of(api.TokInt).N
	case w.Kind == api.TokInt:
		t.Kind, t.N = api.PatInt, p.step().N
	case w.Kind == api.TokAtom:
		t.Kind, t.Name = api.PatAtom, p.step().Text
	case p.spelled() == "{":
		t.Kind, t.Args = api.PatTuple, tuple(p, p.pattern)
	default:
		t.Kind, t.Name = api.PatVar, p.name()
	}
	return t
}
