package run

import (
	"iter"

	"postbag/api"
	"postbag/machine"
	"postbag/value"
)

// What an event tells, by its Code.
const (
	aValue     = 1
	fullMemory = 2
)

// ecall is the bytes of the instruction by which a hart tells something.
const ecall = "\x73\x00\x00\x00"

const (
	instruction = 4 // bytes
	word        = 8
)

// notes is what a run noted of what it told.
type notes struct {
	events int // how many were looked at
	outs   []api.Value
	full   bool
	wrong  bool // something was told that counts, and may not be
	over   bool // nothing counts any more
}

// spoke tells whether a choice may have told something: it issued an instruction, and the one ahead of where its hart is now is an ecall. All events are as many as were ever told: they are asked for then alone.
func (r *Run) spoke(c machine.Choice) bool {
	if c.Kind != machine.Issue {
		return false
	}
	l, e := r.Bytes(r.PC(c.Hart)-instruction, instruction)
	return e == api.OK && string(l) == ecall
}

// note notes what was told since it was noted last.
func (r *Run) note() {
	for e := range r.news((*machine.Machine).Events) {
		if r.told.over {
			continue
		}
		if r.told.full {
			r.told.wrong = true
		}
		switch e.Code {
		case aValue:
			r.noteValue(e.A)
		case fullMemory:
			r.told.full = true
		default:
			r.told.wrong = true
		}
	}
}

// noteValue notes the value of a word that was told.
func (r *Run) noteValue(w uint64) {
	v, e := r.decoded(w)
	switch e {
	case api.OK:
		r.told.outs = append(r.told.outs, v)
	case api.ErrRoom:
		r.told.full, r.told.over = true, true
	default:
		r.told.wrong = true
	}
}

// news yields those of the events that a machine is asked for that were not looked at yet.
func (r *Run) news(ask func(*machine.Machine) []machine.Event) iter.Seq[machine.Event] {
	return func(yield func(machine.Event) bool) {
		l := ask(r.engine.Machine)
		for r.told.events < len(l) {
			e := l[r.told.events]
			r.told.events++
			if !yield(e) {
				return
			}
		}
	}
}

// decoded tells the value of a word, in the memory as it is now.
func (r *Run) decoded(w uint64) (api.Value, api.Errno) {
	// What is no tuple needs none of the words, and these are many.
	if v, e := value.Decode(w, nil, r.layout.Actors); e == api.OK {
		return v, e
	}
	return value.Decode(w, r.words(), r.layout.Actors)
}

// words tells the records' and blocks' words.
func (r *Run) words() []uint64 {
	l, _ := r.Bytes(r.layout.Actors, int(r.layout.End-r.layout.Actors))
	words := make([]uint64, len(l)/word)
	for k, b := range l {
		words[k/word] |= uint64(b) << (8 * (k % word))
	}
	return words
}

// Outs tells what was told.
func (r *Run) Outs() []api.Value {
	if !r.made() {
		return nil
	}
	return copied(r.told.outs)
}

// copied tells the same values, in memory of their own.
func copied(l []api.Value) []api.Value {
	own := make([]api.Value, len(l))
	copy(own, l)
	for k := range own {
		if len(own[k].Args) > 0 {
			own[k].Args = copied(own[k].Args)
		}
	}
	return own
}

// Full tells whether memory was full.
func (r *Run) Full() bool {
	return r.made() && r.told.full
}

// Wrong tells what went wrong.
func (r *Run) Wrong() api.Errno {
	if !r.made() {
		return api.ErrNil
	}
	for h := range r.Harts() {
		if e := r.Stopped(h); e != api.OK && e != api.ErrHalt {
			return e
		}
	}
	if r.told.wrong {
		return api.ErrValue
	}
	return api.OK
}
