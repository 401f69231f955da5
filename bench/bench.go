// Package bench runs code on the machine by scripts that look thrown: what the tests of the layers that make code have in common.
package bench

import (
	"slices"

	"postbag/api"
	"postbag/code"
	"postbag/machine"
	"postbag/memory"
)

// Row is numbers that look thrown, the same ones each time.
type Row uint64

// Next is the next one, from 0 to n - 1.
func (r *Row) Next(n int) int {
	*r = *r*6364136223846793005 + 1442695040888963407
	return int(uint64(*r) >> 33 % uint64(n))
}

// Word is one of 64 bits.
func (r *Row) Word() uint64 {
	return uint64(r.Next(1<<31))<<33 ^ uint64(r.Next(1<<31))<<2 ^ uint64(r.Next(4))
}

// Lay lays the code of parts, one behind the other, into a memory at a place, and tells where its labels stand.
func Lay(m *memory.Memory, at uint64, parts ...[]api.Item) (map[string]uint64, api.Errno) {
	words, labels, e := code.Assemble(slices.Concat(parts...), at)
	if e != api.OK {
		return nil, e
	}
	for k, w := range words {
		if e := m.Store(at+uint64(4*k), 4, uint64(w)); e != api.OK {
			return nil, e
		}
	}
	places := map[string]uint64{}
	for _, l := range labels {
		places[l.Name] = l.At
	}
	return places, api.OK
}

// A Style is what a script mostly does.
type Style int

// The styles: whatever there is; of all that may perform what was issued last, or first; nothing performs that can wait.
const (
	Any Style = iota
	Newest
	Oldest
	Late
	Styles
)

// A Script does choices of a machine, one by one.
type Script struct {
	Row   Row
	Style Style
	Fails int  // of 8 times that an sc performs, how often it is let fail
	Away  bool // whether every now and then one hart waits for long
	gone  int  // the hart that waits
	left  int  // how many choices it does so still
}

// Do does a choice, and tells of which hart; false if there is none.
func (s *Script) Do(m *machine.Machine) (machine.Choice, bool) {
	s.leave(m)
	first := s.Row.Next(m.Harts())
	for k := range m.Harts() {
		h := (first + k) % m.Harts()
		if s.left > 0 && h == s.gone {
			continue
		}
		if c, ok := s.of(m, h); ok {
			return c, true
		}
	}
	if s.left > 0 {
		s.left = 0
		return s.of(m, s.gone)
	}
	return machine.Choice{}, false
}

// Play does choices, most times at the most; whether there is none any more.
func (s *Script) Play(m *machine.Machine, most int) bool {
	for range most {
		if _, ok := s.Do(m); !ok {
			return true
		}
	}
	return false
}

// leave lets one hart wait every now and then.
func (s *Script) leave(m *machine.Machine) {
	switch {
	case s.left > 0:
		s.left--
	case s.Away && s.Row.Next(40) == 0:
		s.gone, s.left = s.Row.Next(m.Harts()), s.Row.Next(300)
	}
}

// of does a choice of a hart, if it has one.
func (s *Script) of(m *machine.Machine, h int) (machine.Choice, bool) {
	style := s.Style
	if s.Row.Next(8) == 0 {
		style = Any
	}
	issue := machine.Choice{Hart: h, Kind: machine.Issue}
	early := style == Late || s.Row.Next(2) == 0
	if early && m.Choose(issue) == api.OK {
		return issue, true
	}
	if c, ok := s.perform(m, h, style); ok {
		return c, true
	}
	return issue, !early && m.Choose(issue) == api.OK
}

// perform performs one of a hart's open operations, if one may.
func (s *Script) perform(m *machine.Machine, h int, style Style) (machine.Choice, bool) {
	open := m.Open(h)
	if open == 0 {
		return machine.Choice{}, false
	}
	first := s.Row.Next(open)
	for k := range open {
		n := (first + k) % open
		switch style {
		case Newest:
			n = open - 1 - k
		case Oldest:
			n = k
		}
		fail := machine.Choice{Hart: h, Kind: machine.Fail, N: n}
		if s.Row.Next(8) < s.Fails && m.Choose(fail) == api.OK {
			return fail, true
		}
		c := machine.Choice{Hart: h, Kind: machine.Perform, N: n}
		if m.Choose(c) == api.OK {
			return c, true
		}
	}
	return machine.Choice{}, false
}

// Step does one choice of a hart: its next instruction, unless it is at a place, or, if that waits, what was issued first of what may perform. False if there is none.
func Step(m *machine.Machine, h int, end uint64) bool {
	if m.PC(h) != end && m.Choose(machine.Choice{Hart: h, Kind: machine.Issue}) == api.OK {
		return true
	}
	for n := range m.Open(h) {
		if m.Choose(machine.Choice{Hart: h, Kind: machine.Perform, N: n}) == api.OK {
			return true
		}
	}
	return false
}

// Through lets a hart go on, alone, till it is at a place and nothing of it is open; whether it comes there in so many choices.
func Through(m *machine.Machine, h int, end uint64, most int) bool {
	for range most {
		if !Step(m, h, end) {
			break
		}
	}
	return m.PC(h) == end && m.Open(h) == 0
}

// Scripts tells so many scripts of all styles, with an sc that fails never, at times and often, with harts that wait and without.
func Scripts(r *Row, n int) []Script {
	l := make([]Script, n)
	for k := range l {
		l[k] = Script{Row: Row(r.Word()), Style: Style(k) % Styles, Fails: []int{0, 0, 3, 6}[r.Next(4)], Away: r.Next(2) == 0}
	}
	return l
}
