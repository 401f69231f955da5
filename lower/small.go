package lower

import "postbag/api"

// mostParts is how many parts a program has at most whose names are there.
const mostParts = 4096

// A count is how many parts more there may be.
type count struct{ left int }

// small tells whether a program is no greater than one whose names are there may be. Others may have no end: lists may stand in one another many times.
func small(p api.Program) bool {
	c := count{left: mostParts}
	c.exprs(p.Args)
	for _, d := range p.Defs {
		if !c.part() {
			break
		}
		c.body(d.Body)
	}
	return c.left >= 0
}

// part counts a part, and tells whether there may be one more.
func (c *count) part() bool {
	c.left--
	return c.left >= 0
}

func (c *count) exprs(l []api.Expr) {
	for _, e := range l {
		if !c.part() {
			break
		}
		c.exprs(e.Args)
	}
}

func (c *count) patterns(l []api.Pattern) {
	for _, p := range l {
		if !c.part() {
			break
		}
		c.patterns(p.Args)
	}
}

// body counts what stands in a body.
func (c *count) body(b api.Body) {
	for _, s := range b.Stmts {
		if !c.part() {
			break
		}
		c.exprs(s.Args)
	}
	c.exprs(b.Args)
	for _, a := range b.Arms {
		if !c.part() {
			break
		}
		c.patterns([]api.Pattern{a.Pattern})
		c.exprs(a.Guard)
		c.body(a.Body)
	}
	for _, part := range b.Parts {
		if !c.part() {
			break
		}
		c.body(part)
	}
}
