package machine

import "postbag/api"

// Choose does a choice.
func (m *Machine) Choose(c Choice) api.Errno {
	if !m.made() {
		return api.ErrNil
	}
	if e := m.refused(c); e != api.OK {
		return e
	}
	if c.Kind == Issue {
		m.issue(c.Hart)
	} else {
		m.perform(c)
	}
	return api.OK
}

// Choices tells all choices that can be done.
func (m *Machine) Choices() []Choice {
	var l []Choice
	offer := func(c Choice) {
		if m.refused(c) == api.OK {
			l = append(l, c)
		}
	}
	for h := range m.Harts() {
		offer(Choice{h, Issue, 0})
		for n := range m.Open(h) {
			offer(Choice{h, Perform, n})
			offer(Choice{h, Fail, n})
		}
	}
	return l
}

// Pick does one of them.
func (m *Machine) Pick(n int) (Choice, api.Errno) {
	if !m.made() {
		return Choice{}, api.ErrNil
	}
	l := m.Choices()
	if len(l) == 0 {
		return Choice{}, api.ErrHalt
	}
	if n < 0 {
		n = -(n + 1)
	}
	c := l[n%len(l)]
	return c, m.Choose(c)
}

// refused tells the error that a choice has.
func (m *Machine) refused(c Choice) api.Errno {
	h := m.hart(c.Hart)
	if h == nil {
		return api.ErrArg
	}
	switch c.Kind {
	case Issue:
		return m.issueRefused(h)
	case Perform, Fail:
		return h.performRefused(c)
	}
	return api.ErrArg
}

// issueRefused tells the error that issuing has.
func (m *Machine) issueRefused(h *hart) api.Errno {
	switch {
	case h.stopped != api.OK:
		return api.ErrHalt
	case m.waits(h):
		return api.ErrWait
	}
	return api.OK
}

// performRefused tells the error that performing has.
func (h *hart) performRefused(c Choice) api.Errno {
	switch {
	case c.N < 0 || c.N >= len(h.open):
		return api.ErrChoice
	case h.open[c.N].op.Fence || c.Kind == Fail && !h.open[c.N].sc():
		return api.ErrChoice
	case h.barred(c.N):
		return api.ErrWait
	}
	return api.OK
}
