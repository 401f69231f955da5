package model

import (
	"postbag/api"
	"postbag/value"
)

// turn is what an actor does when it runs.
type turn struct {
	model  *Model
	number int
	args   []api.Value // the values of the Args of what it does
	told   api.Value
	tells  bool
	wrong  api.Errno
}

// run does what a living actor is to do next.
func (m *Model) run(number int) (api.Value, bool, api.Errno) {
	args, ok := m.args(number)
	if !ok {
		return api.Value{}, false, api.ErrRoom
	}
	t := turn{model: m, number: number, args: args}
	do := t.does(m.actors[number].next.work)
	do()
	return t.told, t.tells, t.wrong
}

// does tells what is done of a work.
func (t *turn) does(w work) func() {
	switch w {
	case letting:
		return t.let
	case spawning:
		return t.spawn
	case sending:
		return t.send
	case telling:
		return t.out
	case becoming:
		return t.become
	case stopping:
		return t.stop
	case branching:
		return t.branch
	}
	return t.receive
}

// actor tells the actor whose turn it is.
func (t *turn) actor() *actor { return &t.model.actors[t.number] }

// bind binds the variable of a statement.
func (t *turn) bind(v api.Value) {
	a := t.actor()
	a.bind([]string{a.next.name}, []api.Value{v})
}

// pass goes on behind a statement.
func (t *turn) pass() {
	a := t.actor()
	a.next = a.next.then[0]
}

func (t *turn) let() {
	t.bind(t.args[0])
	t.pass()
}

func (t *turn) spawn() {
	kind := t.actor().next.actor
	t.bind(actorsNumber(t.model.Actors()))
	t.pass()
	t.model.begin(kind, t.args)
}

// send puts a message on its way. One that has stopped gets none: it would wait there for ever, and models would be unlike of which the same comes.
func (t *turn) send() {
	if to := t.args[0]; to.Kind == api.ValPid && t.model.lives(to.N) {
		receiver := &t.model.actors[to.N]
		receiver.way = append(receiver.way, t.args[1])
	}
	t.pass()
}

func (t *turn) out() {
	t.told, t.tells = t.args[0], true
	t.pass()
}

func (t *turn) become() {
	a := t.actor()
	a.become(t.model.kinds[a.next.actor], t.args)
}

func (t *turn) stop() { *t.actor() = actor{} }

func (t *turn) branch() {
	a := t.actor()
	if value.Holds(t.args[0]) {
		a.next = a.next.then[0]
	} else {
		a.next = a.next.then[1]
	}
}

func (t *turn) receive() {
	taken, ok := t.model.take(t.number)
	if !ok {
		t.wrong = api.ErrWait
		return
	}
	a := t.actor()
	a.lose(taken.message)
	a.bind(taken.names, taken.values)
	a.next = a.next.arms[taken.arm].then
}
