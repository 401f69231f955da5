package model

import (
	"slices"

	"postbag/api"
	"postbag/value"
)

// take is a message of a box that is received, by an arm, and what that binds.
type take struct {
	message, arm int
	names        []string
	values       []api.Value
}

// take tells what a living actor receives, and whether it does. What is no receive has no arms.
func (m *Model) take(number int) (take, bool) {
	a := m.actors[number]
	for message, v := range a.box {
		for place, arm := range a.next.arms {
			names, values, fits := Match(arm.pattern, v, m.atoms)
			if fits && m.guarded(arm.guard, a, number, names, values) {
				return take{message, place, names, values}, true
			}
		}
	}
	return take{}, false
}

// guarded tells whether a Guard, if there is one, holds for an actor that has some variables more.
func (m *Model) guarded(guard []api.Expr, a actor, number int, names []string, values []api.Value) bool {
	for _, g := range guard {
		v := Eval(g, slices.Concat(a.names, names), slices.Concat(a.values, values), m.atoms, number)
		if !value.Holds(v) {
			return false
		}
	}
	return true
}

// arrive puts the first message on its way to a living actor into its box.
func (m *Model) arrive(number int) api.Errno {
	if !m.can(Arrive, number) {
		return api.ErrWait
	}
	a := &m.actors[number]
	a.box = append(a.box, a.way[0])
	a.way = a.way[1:]
	return api.OK
}

// late has a living actor go on behind after.
func (m *Model) late(number int) api.Errno {
	if !m.can(Late, number) {
		return api.ErrWait
	}
	a := &m.actors[number]
	a.next = a.next.then[0]
	return api.OK
}

// can tells whether a move of a living actor has no error.
func (m *Model) can(kind, number int) bool {
	a := m.actors[number]
	switch {
	case kind == Arrive:
		return len(a.way) > 0
	case a.next.work != receiving:
		_, ok := m.args(number)
		return ok && kind == Run
	}
	_, taken := m.take(number)
	if kind == Run {
		return taken
	}
	return a.next.late && !taken
}
