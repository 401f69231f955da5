package lower

import (
	"strconv"

	"postbag/api"
	"postbag/image"
	"postbag/items"
	"postbag/pattern"
)

// The registers of an actor that holds its messages against arms.
const (
	block = 24 // the message's block
	link  = 25 // where the word stands that leads to it
)

// What pattern's nodes tell where they tell no arm: they ask a test, or no pattern fits.
const (
	asks = -1
	none = -2
)

// receive lays a receive. An actor that waits goes on with what comes: those in its list it has held against all arms, and nothing has changed by which they would fit.
func (l *lowering) receive(b api.Body) {
	own := items.Own("p" + strconv.Itoa(l.receives))
	l.receives++
	next, more, hold, empty := l.label(), l.label(), l.label(), l.label()
	if b.Late {
		l.Const(one, uint64(b.After))
		l.Both(api.OpAdd, one, one, items.Rounds)
		l.Store(one, items.Record, image.WDead)
	}
	l.Number(api.OpAddi, link, items.Record, items.Offset(image.WSave))
	l.Label(next)
	l.Load(block, link, 0)
	l.Branch(api.OpBeq, block, items.Zero, more)
	l.Label(hold)
	l.arms(b.Arms, own)
	l.Number(api.OpAddi, link, block, items.Offset(image.BNext))
	l.Jump(items.Zero, next)
	l.Label(empty)
	if b.Late {
		l.Load(one, items.Record, image.WDead)
		l.Branch(api.OpBgeu, items.Rounds, one, own("late"))
	}
	l.call("lower.rest")
	l.Label(more)
	l.call("lower.more")
	l.Branch(api.OpBeq, items.First, items.Zero, empty)
	l.Label(own("took"))
	l.Copy(block, items.First)
	l.Jump(items.Zero, hold)
	if b.Late {
		l.Label(own("late"))
		l.body(at(b.Parts, 0))
	}
}

// arms lays what holds a message against arms, and goes on with the first one that fits; behind it goes on what none fits.
func (l *lowering) arms(arms []api.Arm, own func(string) string) {
	var patterns []api.Pattern
	for _, a := range arms {
		patterns = append(patterns, a.Pattern)
	}
	nodes, firsts := pattern.Plan(patterns, l.atoms)
	firsts = append(firsts, len(nodes)-1)
	labels := make([]string, len(nodes))
	for _, first := range firsts {
		labels[first] = l.label()
	}
	var w *walk
all:
	for k, n := range nodes {
		if labels[k] != "" {
			l.Label(labels[k])
			w = &walk{lowering: l, inBlock: true}
		}
		switch n.Arm {
		case asks:
			w.test(n.Test, labels[n.No])
		case none:
			break all
		default:
			l.arm(arms[n.Arm], w, own("fit"+strconv.Itoa(n.Arm)), labels[firsts[n.Arm+1]])
		}
	}
}

// test lays what goes to a label if a test does not fit the message.
func (w *walk) test(t pattern.Test, no string) {
	if !w.to(t.Path, one) {
		return // no message fits the tests ahead of this one
	}
	want := uint64(t.N) << tagBits
	switch t.Kind {
	case api.PatTuple:
		w.Number(api.OpAndi, two, one, tags)
		w.Number(api.OpAddi, two, two, -tagTuple)
		w.Branch(api.OpBne, two, items.Zero, no)
		w.Both(api.OpAdd, one, one, block)
		w.part(one, one, -1)
		want = uint64(t.N)
	case api.PatAtom:
		want |= tagAtom
	}
	w.Const(two, want)
	w.Branch(api.OpBne, one, two, no)
}

// arm lays what is done with a message that fits an arm's pattern; if its guard does not hold, it goes to a label.
func (l *lowering) arm(a api.Arm, w *walk, fit, no string) {
	bound := l.scope.bound()
	names, paths := pattern.Vars(a.Pattern)
	for _, name := range names {
		l.bind(name)
	}
	if len(a.Guard) > 0 {
		// Up to where it is received the message stays in its block: what a guard asks of its parts is there.
		w.variables(paths, bound)
	}
	for _, g := range a.Guard {
		l.reckon([]api.Expr{g}, l.scope.bound(), false).unless(0, no)
	}
	l.Label(fit)
	l.Const(items.First, uint64(bound))
	l.call("lower.take")
	heap := &walk{lowering: l}
	heap.variables(paths, bound)
	l.body(a.Body)
	l.scope.leave(bound)
}

// variables lays what gives slots, from one on, the parts at paths.
func (w *walk) variables(paths [][]int, slot int) {
	for k, path := range paths {
		if w.to(path, one) {
			w.keep(one, slot+k)
		}
	}
}
