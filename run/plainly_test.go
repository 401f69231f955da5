package run_test

import (
	"encoding/binary"
	"strconv"
	"strings"
	"testing"

	"postbag/api"
	"postbag/compile"
	"postbag/image"
	"postbag/machine"
	"postbag/run"
)

// plain is a plain second telling of a run.
type plain struct {
	testing.TB
	x                *machine.Machine
	l                api.Layout
	outs             []string
	full, great, odd bool
	events, steps    int
	met, deep        int // parts of the value that is read, and tuples around
}

// told tells the second telling of an image.
func told(t testing.TB, i compile.Image) *plain {
	t.Helper()
	m, e := image.Build(i.Conf, i.Layout, i.Words)
	if e != api.OK {
		t.Fatal(int(e))
	}
	at, _ := compile.At(i, "boot")
	var pcs []uint64
	for range i.Conf.Harts {
		pcs = append(pcs, at)
	}
	x, e := machine.New(m, pcs)
	if e != api.OK {
		t.Fatal(int(e))
	}
	return &plain{TB: t, x: x, l: i.Layout}
}

// do does a choice.
func (p *plain) do(n int) (machine.Choice, api.Errno) {
	l := p.x.Choices()
	if len(l) == 0 {
		return machine.Choice{}, api.ErrHalt
	}
	if n < 0 {
		n = -1 - n
	}
	c := l[n%len(l)]
	if e := p.x.Choose(c); e != api.OK {
		p.Fatal(int(e))
	}
	p.saw()
	return c, api.OK
}

// play does choices by a script.
func (p *plain) play(script []int, times int) int {
	x := uint32(1)
	for done := range times {
		n := int(x >> 16)
		if done < len(script) {
			n = script[done]
		} else {
			x = (x*1103515245 + 12345) & (1<<31 - 1)
		}
		if _, e := p.do(n); e != api.OK {
			return done
		}
	}
	return max(times, 0)
}

// fair does rounds.
func (p *plain) fair(rounds int) {
	for k := 0; k < rounds; k++ {
		for h := range p.x.Harts() {
			c := machine.Choice{Hart: h, Kind: machine.Perform}
			if p.x.Open(h) == 0 {
				c.Kind = machine.Issue
			}
			if p.x.Choose(c) == api.OK {
				p.saw()
			}
		}
	}
}

// saw looks at what was told by a choice that was done.
func (p *plain) saw() {
	p.steps++
	l := p.x.Events()
	for ; p.events < len(l); p.events++ {
		e := l[p.events]
		if p.great {
			continue
		}
		if p.full {
			p.odd = true
		}
		if e.Code == 2 {
			p.full = true
		} else if e.Code != 1 {
			p.odd = true
		} else {
			p.out(e.A)
		}
	}
}

// out looks at a word that was told.
func (p *plain) out(w uint64) {
	p.met, p.deep = 0, 0
	s, e := p.text(w)
	switch {
	case e == api.ErrRoom:
		p.full, p.great = true, true
	case e != api.OK:
		p.odd = true
	default:
		p.outs = append(p.outs, s)
	}
}

// text tells the text of a word's value, as it stands in memory.
func (p *plain) text(w uint64) (string, api.Errno) {
	n := int(w) >> 2
	if p.met++; p.met > 4096 {
		return "", api.ErrRoom
	}
	switch {
	case w&3 == 0:
		return strconv.Itoa(n), api.OK
	case w&3 == 1:
		return p.tuple(w - 1)
	case n < 0 || n >= 1<<20:
		return "", api.ErrValue
	}
	return []string{"a", "p"}[w&1] + strconv.Itoa(n), api.OK
}

// tuple tells the text of a tuple at an address.
func (p *plain) tuple(at uint64) (string, api.Errno) {
	if p.deep == api.MaxDepth {
		return "", api.ErrRoom
	}
	n, ok := p.word(at)
	if !ok || n < 1 || n > 4 {
		return "", api.ErrValue
	}
	for k := range n {
		if _, ok := p.word(at + 8*(k+1)); !ok {
			return "", api.ErrValue
		}
	}
	p.deep++
	var parts []string
	for k := range n {
		v, _ := p.word(at + 8*(k+1))
		s, e := p.text(v)
		if e != api.OK {
			return "", e
		}
		parts = append(parts, s)
	}
	p.deep--
	return "{" + strings.Join(parts, ",") + "}", api.OK
}

// word tells a word of records or blocks.
func (p *plain) word(at uint64) (uint64, bool) {
	if at%8 != 0 || at < p.l.Actors || at >= p.l.End {
		return 0, false
	}
	b, e := p.x.Bytes(at, 8)
	if e != api.OK {
		p.Fatal(int(e))
	}
	return binary.LittleEndian.Uint64(b), true
}

// state tells what is told of the run.
func (p *plain) state() state {
	s := state{outs: strings.Join(p.outs, " "), full: p.full, steps: p.steps, done: true}
	for h := range p.x.Harts() {
		e := p.x.Stopped(h)
		s.done = s.done && e != api.OK && p.x.Open(h) == 0
		if s.wrong == api.OK && e != api.ErrHalt {
			s.wrong = e
		}
	}
	if s.wrong == api.OK && p.odd {
		s.wrong = api.ErrValue
	}
	return s
}

// held holds a run against its second telling.
func (p *plain) held(r *run.Run) {
	p.Helper()
	if a, b := stateOf(r), p.state(); a != b {
		p.Fatalf("%+v, not %+v", a, b)
	}
}

// wholly holds a run's machine against its second telling's, too.
func (p *plain) wholly(r *run.Run) {
	p.Helper()
	p.held(r)
	same(p, r.Machine(), p.x, p.l.End)
}
