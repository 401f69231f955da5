package parse_test

import (
	"strings"
	"testing"

	"postbag/api"
	"postbag/lex"
)

// The grammar, told a second time: as a table that is read, with a search through all that words may be the beginning of.
// A number behind a * is how often at most. What begins with a + is a part whose brackets count.
const grammar = `
Program: Def Def* main Name ( Args? ) End
Def: actor Name ( Names? ) +Body
Names: Name NextName*7
NextName: , Name
+Body: { Stmt* Last }
Stmt: let Name = spawn Name ( Args? ) ; | let Name = Expr ; | send Expr , Expr ; | out Expr ;
Last: become Name ( Args? ) | stop | if Expr +Body else +Body | receive { Arm Arm* After? } | receive { After }
Arm: Pattern When? +Body
When: when Expr
After: after Int +Body
Pattern: _ | Int | - Int | Atom | Name | +Shape
+Shape: { Pattern NextPattern*3 }
NextPattern: , Pattern
Args: Expr NextExpr*7
NextExpr: , Expr
Expr: Sum Held?
Held: < Sum | == Sum
Sum: Term Added*
Added: + Term | - Term
Term: Prim Times*
Times: * Prim
Prim: Int | Atom | Name | self | +Tuple | +Round
+Tuple: { Expr NextExpr*3 }
+Round: ( Expr )
Alone: Expr End
`

// item is what stands in a rule, from how often on and up to how often.
type item struct {
	name     string
	from, to int
}

// rules are a grammar's: of each what it may be.
type rules map[string][][]item

func readRules() rules {
	g := rules{}
	for _, line := range strings.Split(strings.TrimSpace(grammar), "\n") {
		name, ways, _ := strings.Cut(line, ": ")
		for _, way := range strings.Split(ways, " | ") {
			var l []item
			for _, w := range strings.Fields(way) {
				x := item{w, 1, 1}
				switch {
				case len(w) > 1 && strings.HasSuffix(w, "?"):
					x = item{w[:len(w)-1], 0, 1}
				case len(w) > 1 && strings.HasSuffix(w, "*"):
					x = item{w[:len(w)-1], 0, 1 << 20}
				case len(w) > 2 && w[len(w)-2] == '*':
					x = item{w[:len(w)-2], 0, int(w[len(w)-1] - '0')}
				}
				l = append(l, x)
			}
			g[name] = append(g[name], l)
		}
	}
	return g
}

// search holds words against rules.
type search struct {
	rules
	words []api.Token
	far   int // the last word that was asked for
}

// leads tells whether there are words at all that are that part, with so many brackets to open.
func (s *search) leads(name string, left int) bool {
	ways, ok := s.rules[name]
	if !ok {
		return true
	}
	if name[0] == '+' {
		left--
	}
	if left < 0 {
		return false
	}
	for _, way := range ways {
		if s.wayLeads(way, left) {
			return true
		}
	}
	return false
}

func (s *search) wayLeads(way []item, left int) bool {
	for _, x := range way {
		if x.from > 0 && !s.leads(x.name, left) {
			return false
		}
	}
	return true
}

// fits tells whether a word is what a rule asks for.
func fits(w api.Token, name string) bool {
	switch name {
	case "Name":
		return w.Kind == api.TokName && lex.Name(w.Text)
	case "Int":
		return w.Kind == api.TokInt
	case "Atom":
		return w.Kind == api.TokAtom
	case "End":
		return w.Kind == api.TokEnd
	}
	return (w.Kind == api.TokName || w.Kind == api.TokSign) && w.Text == name
}

// part tries a part from a word on, and goes on behind it.
func (s *search) part(name string, left, at int, on func(int) bool) bool {
	ways, ok := s.rules[name]
	if !ok {
		s.far = max(s.far, at)
		return fits(s.words[at], name) && on(at+1)
	}
	if name[0] == '+' {
		left--
	}
	for _, way := range ways {
		if left >= 0 && s.wayLeads(way, left) && s.way(way, left, at, 0, on) {
			return true
		}
	}
	return false
}

// way tries what is left of a way, of whose first part there were some already.
func (s *search) way(way []item, left, at, had int, on func(int) bool) bool {
	if len(way) == 0 {
		return on(at)
	}
	x := way[0]
	if had < x.to && s.leads(x.name, left) && s.part(x.name, left, at, func(at int) bool {
		return s.way(way, left, at, had+1, on)
	}) {
		return true
	}
	return had >= x.from && s.way(way[1:], left, at, 0, on)
}

// place tells whether words are that part; if not, where the first one stands with which they can't be the beginning of it.
func (g rules) place(words []api.Token, name string) (bool, int) {
	s := search{rules: g, words: words}
	ok := s.part(name, api.MaxDepth, 0, func(int) bool { return true })
	return ok, words[s.far].At
}

// placeOf tells of a source whether it is of the grammar, and the place to be told, if it is not, or if its tree may not be.
func (g rules) placeOf(t *testing.T, src string) (bool, int) {
	t.Helper()
	l, _, e := lex.Tokens([]byte(src))
	if e != api.OK {
		t.Fatalf("%q: no words", src)
	}
	ok, at := g.place(l, "Program")
	if ok {
		at = 0
	}
	return ok, at
}

// isToldAs holds what is told of a source against the second telling; it tells whether it is a program.
func (g rules) isToldAs(t *testing.T, src string) bool {
	t.Helper()
	ok, at := g.placeOf(t, src)
	if ok {
		isProgram(t, src)
	} else {
		isWrong(t, src, at, api.ErrSyntax)
	}
	return ok
}
