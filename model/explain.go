package model

import (
	"postbag/api"
	"postbag/value"
)

// mostActors is how many actors a model may have that is gone on with.
const mostActors = 16

// likeness is what models have in common just if they are alike: by their Key, and how many outs were told.
type likeness struct {
	key  string
	told int
}

// trial is a model that waits to be tried.
type trial struct {
	model *Model
	likeness
}

// search goes through models by their moves, for those that tell just the outs.
type search struct {
	outs  []api.Value
	met   map[likeness]struct{}
	waits waiting[trial]
	left  bool // whether a model was met that is not gone on with
}

// Explain tells whether some moves tell just these values first.
func Explain(p api.Program, outs []api.Value, most int) (found, whole bool) {
	m, e := New(p)
	switch {
	case e == api.ErrRoom:
		// The first actor has too great a value: nothing is known of what it would tell.
		return false, false
	case e != api.OK:
		return false, true
	case len(outs) == 0:
		return true, true
	}
	// Two searches go on by turns: the one comes soon to what takes many moves, the other is not led astray by what goes on for ever.
	searches := [...]*search{searchOf(m, outs, true), searchOf(m, outs, false)}
	tried := map[likeness]struct{}{}
	for {
		for _, s := range searches {
			x, ok := s.waits.take()
			if !ok {
				return false, !s.left
			}
			if _, again := tried[x.likeness]; !again && len(tried) >= most {
				return false, false
			}
			tried[x.likeness] = struct{}{}
			if s.try(x) {
				return true, true
			}
		}
	}
}

// searchOf tells a search that begins with a model.
func searchOf(m *Model, outs []api.Value, newest bool) *search {
	s := &search{outs: outs, met: map[likeness]struct{}{}, waits: waiting[trial]{newest: newest}}
	s.meet(m, 0)
	return s
}

// try goes on with a model by all its moves, and tells whether one of them told the last one of the outs.
func (s *search) try(x trial) bool {
	for _, move := range x.model.Moves() {
		next, told := x.model.Clone(), x.told
		v, tells, _ := next.Do(move)
		if tells && !value.Same(v, s.outs[told]) {
			continue
		}
		if tells {
			told++
		}
		if told == len(s.outs) {
			return true
		}
		s.meet(next, told)
	}
	return false
}

// meet has a model wait, if it is unlike all that were met.
func (s *search) meet(m *Model, told int) {
	k := likeness{m.Key(), told}
	if _, ok := s.met[k]; ok {
		return
	}
	s.met[k] = struct{}{}
	if m.ends() {
		s.left = true
		return
	}
	s.waits.put(trial{m, k}, told)
}

// ends tells whether a model is not gone on with.
func (m *Model) ends() bool {
	if len(m.actors) > mostActors {
		return true
	}
	for number := range m.actors {
		if !m.lives(number) {
			continue
		}
		if _, ok := m.args(number); !ok {
			return true
		}
	}
	return false
}
