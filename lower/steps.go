package lower

import (
	"cmp"
	"slices"

	"postbag/api"
	"postbag/scan"
)

// What a step tells: a number that is known, the actor's own word, a variable's, a new tuple's, or what a sign makes of two; or nothing, for it takes all that is reckoned together.
const (
	constant = iota
	self
	variable
	tuple
	sum
	difference
	product
	less
	equal
	together
)

// A step reckons one value of those of steps ahead of it.
type step struct {
	kind  int
	word  uint64 // a constant
	slot  int    // of a variable
	parts []int  // the places of the steps whose values it takes
}

// A node is a step with all that it takes, and how many values are needed at a time, at least, to come to it.
type node struct {
	step
	takes []*node
	need  int
}

// constantly tells the node of a constant.
func constantly(word uint64) *node { return joined(step{kind: constant, word: word}) }

// joined tells the node of a step and what it takes.
func joined(s step, takes ...*node) *node {
	n := &node{step: s, takes: takes, need: 1}
	for k, place := range n.order() {
		n.need = max(n.need, takes[place].need+k)
	}
	return n
}

// order tells in which order what a node takes is reckoned: first what needs most, while nothing else is kept.
func (n *node) order() []int {
	l := make([]int, len(n.takes))
	for place := range l {
		l[place] = place
	}
	slices.SortStableFunc(l, func(a, b int) int { return cmp.Compare(n.takes[b].need, n.takes[a].need) })
	return l
}

// node tells an expression's node. Where no tuples are laid, one is known by its tag alone: nothing asks for its parts.
func (l *lowering) node(e api.Expr, laid bool) *node {
	all := func(list []api.Expr) []*node {
		nodes := make([]*node, len(list))
		for k, x := range list {
			nodes[k] = l.node(x, laid)
		}
		return nodes
	}
	switch e.Kind {
	case api.ExprInt:
		return constantly(uint64(e.N) << tagBits)
	case api.ExprAtom:
		if number, ok := l.numbers[e.Name]; ok {
			return constantly(uint64(number)<<tagBits | tagAtom)
		}
	case api.ExprVar:
		if slot, ok := l.scope.slot(e.Name); ok {
			return joined(step{kind: variable, slot: slot})
		}
	case api.ExprSelf:
		return joined(step{kind: self})
	case api.ExprTuple:
		if !laid {
			return constantly(tagTuple)
		}
		return joined(step{kind: tuple}, all(e.Args)...)
	case api.ExprBin:
		if kind, ok := kindOf(e.Name); ok && len(e.Args) == 2 {
			return joined(step{kind: kind}, all(e.Args)...)
		}
	}
	return constantly(0)
}

// kindOf tells the kind of a sign's step, and whether it is a sign.
func kindOf(sign string) (int, bool) {
	switch sign {
	case "+":
		return sum, true
	case "-":
		return difference, true
	case "*":
		return product, true
	case "<":
		return less, true
	case "==":
		return equal, true
	}
	return 0, false
}

// plan tells the steps that reckon expressions together, the last of which takes all their values.
func (l *lowering) plan(list []api.Expr, laid bool) []step {
	nodes := make([]*node, len(list))
	for k, e := range list {
		nodes[k] = l.node(e, laid)
	}
	var steps []step
	var put func(n *node) int
	put = func(n *node) int {
		parts := make([]int, len(n.takes))
		for _, place := range n.order() {
			parts[place] = put(n.takes[place])
		}
		n.parts = parts
		steps = append(steps, n.step)
		return len(steps) - 1
	}
	put(joined(step{kind: together}, nodes...))
	return steps
}

// lives tells how long the value of each step but the last one is needed: up to the step that takes it, which may put its own in that one's place.
func lives(steps []step) []scan.Life {
	l := make([]scan.Life, len(steps)-1)
	for place, s := range steps {
		for _, part := range s.parts {
			l[part] = scan.Life{From: part, To: place}
		}
	}
	return l
}
