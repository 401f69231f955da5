package model

import (
	"slices"

	"postbag/api"
)

// actor is one of a model's. Models that were cloned share its lists: none of them is written
// into, and what is put behind one stands in room that no other model has.
type actor struct {
	next   *step // what it is to do next; nil, once it has stopped: it has nothing else then, and gets nothing any more
	names  []string
	values []api.Value // of the names, place by place
	way    []api.Value // messages that are on the way to it
	box    []api.Value
}

// begin makes an actor of the next number.
func (m *Model) begin(name string, args []api.Value) {
	var a actor
	a.become(m.kinds[name], args)
	m.actors = append(m.actors, a)
}

// become has an actor at the beginning of a kind's body; its messages stay.
func (a *actor) become(k kind, args []api.Value) {
	a.next, a.names, a.values = k.first, slices.Clip(k.params), slices.Clip(args)
}

// bind has values of more names in scope.
func (a *actor) bind(names []string, values []api.Value) {
	a.names = append(a.names, names...)
	a.values = append(a.values, values...)
}

// lose takes a message out of the box.
func (a *actor) lose(message int) {
	if message == 0 {
		a.box = a.box[1:]
		return
	}
	a.box = slices.Concat(a.box[:message], a.box[message+1:])
}

// clone tells an actor that shares the lists of this one, but not the room behind them.
func (a actor) clone() actor {
	return actor{a.next, slices.Clip(a.names), slices.Clip(a.values), slices.Clip(a.way), slices.Clip(a.box)}
}

// reckoned tells the values of expressions, as an actor of that number reckons them, and whether none is too great; none, if one is.
func (m *Model) reckoned(list []api.Expr, a actor, number int) ([]api.Value, bool) {
	values := make([]api.Value, len(list))
	for i, e := range list {
		values[i] = Eval(e, a.names, a.values, m.atoms, number)
		if tooGreat(values[i]) {
			return nil, false
		}
	}
	return values, true
}

// args tells the values of what a living actor does next, and whether none is too great.
func (m *Model) args(number int) ([]api.Value, bool) {
	a := m.actors[number]
	return m.reckoned(a.next.args, a, number)
}

// mostWords is how many words a value's tuples may have.
const mostWords = 4096

// tooGreat tells whether a value is. It is gone through no further than that takes.
func tooGreat(v api.Value) bool {
	words := 0
	var great func(v api.Value, around int) bool
	great = func(v api.Value, around int) bool {
		if v.Kind != api.ValTuple {
			return false
		}
		words += 1 + len(v.Args)
		if words > mostWords || around == api.MaxDepth {
			return true
		}
		for _, part := range v.Args {
			if great(part, around+1) {
				return true
			}
		}
		return false
	}
	return great(v, 0)
}
