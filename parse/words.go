package parse

import (
	"postbag/api"
	"postbag/lex"
)

// parser goes through a source's words.
type parser struct {
	words []api.Token     // those that are left; none, once one was wrong
	open  int             // how many brackets stand open
	keep  func(place int) // keeps the place of the word that is wrong
}

// word tells the next word; one of no kind, once one was wrong.
func (p *parser) word() api.Token {
	if len(p.words) == 0 {
		return api.Token{}
	}
	return p.words[0]
}

// step tells the next word, and leaves it behind.
func (p *parser) step() api.Token {
	w := p.word()
	if len(p.words) > 0 {
		p.words = p.words[1:]
	}
	return w
}

// refuse has the next word as the one that is wrong. No word is left then: whatever
// is still being parsed finds nothing that fits, and comes to its end.
func (p *parser) refuse() {
	if len(p.words) > 0 {
		p.keep(p.words[0].At)
		p.words = nil
	}
}

// spelled tells the Text of the next word, if that is what the grammar asks for.
func (p *parser) spelled() string {
	w := p.word()
	if w.Kind != api.TokName && w.Kind != api.TokSign {
		return ""
	}
	return w.Text
}

// may leaves the next word behind, if it is that one.
func (p *parser) may(text string) bool {
	is := p.spelled() == text
	if is {
		p.step()
	}
	return is
}

// must leaves the next word behind, which has to be that one.
func (p *parser) must(text string) {
	if !p.may(text) {
		p.refuse()
	}
}

// of leaves the next word behind, which has to be of that kind.
func (p *parser) of(kind int) api.Token {
	if p.word().Kind != kind {
		p.refuse()
	}
	return p.step()
}

// name tells the next word, which has to be a name.
func (p *parser) name() string {
	if !lex.Name(p.word().Text) {
		p.refuse()
	}
	return p.of(api.TokName).Text
}

// last refuses all words but the end.
func (p *parser) last() {
	if p.word().Kind != api.TokEnd {
		p.refuse()
	}
}

// deeper refuses the next word, which asks for a bracket, if no more may stand open.
func (p *parser) deeper() {
	if p.open == api.MaxDepth {
		p.refuse()
	}
}

// nested parses what stands between two brackets of those that are counted.
func nested[T any](p *parser, open, shut string, inside func() T) T {
	p.deeper()
	p.must(open)
	p.open++
	part := inside()
	p.open--
	p.must(shut)
	return part
}

// list parses one part and more, at most so many, with commas between them.
func list[T any](p *parser, most int, part func() T) []T {
	parts := []T{part()}
	for len(parts) < most && p.may(",") {
		parts = append(parts, part())
	}
	return parts
}

// params parses the parts between the ( ) of an actor, of which there may be none.
func params[T any](p *parser, part func() T) []T {
	p.must("(")
	if p.may(")") {
		return nil
	}
	parts := list(p, api.MaxParams, part)
	p.must(")")
	return parts
}

// tuple parses the parts of one.
func tuple[T any](p *parser, part func() T) []T {
	return nested(p, "{", "}", func() []T { return list(p, api.MaxTuple, part) })
}
