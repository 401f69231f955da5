package model

import (
	"slices"

	"postbag/api"
)

// matcher holds values against patterns.
type matcher struct {
	atoms  []string
	names  []string
	values []api.Value
	plain  map[pair]struct{}
}

// pair is where a list of patterns and one of values stand: both may be shared, as lists of expressions may.
type pair struct {
	pattern *api.Pattern
	value   *api.Value
	length  int
}

// Match tells whether a value fits a pattern, and what it binds.
func Match(p api.Pattern, v api.Value, atoms []string) ([]string, []api.Value, bool) {
	m := matcher{atoms: atoms}
	if !m.fits(p, v) {
		return nil, nil, false
	}
	return slices.Clip(m.names), slices.Clip(m.values), true
}

func (m *matcher) fits(p api.Pattern, v api.Value) bool {
	switch p.Kind {
	case api.PatAny:
		return true
	case api.PatInt:
		return v.Kind == api.ValInt && v.N == p.N
	case api.PatAtom:
		place := lastPlace(m.atoms, p.Name)
		return place >= 0 && v.Kind == api.ValAtom && v.N == place
	case api.PatVar:
		m.names = append(m.names, p.Name)
		m.values = append(m.values, v)
		return true
	case api.PatTuple:
		return v.Kind == api.ValTuple && m.all(p.Args, v.Args)
	}
	return false
}

// all tells whether the values of a list fit as many patterns.
func (m *matcher) all(patterns []api.Pattern, values []api.Value) bool {
	if len(patterns) != len(values) {
		return false
	}
	if len(patterns) == 0 {
		return true
	}
	both := pair{&patterns[0], &values[0], len(patterns)}
	if _, ok := m.plain[both]; ok {
		return true
	}
	bound, nested := len(m.names), false
	for i, p := range patterns {
		if !m.fits(p, values[i]) {
			return false
		}
		nested = nested || len(p.Args) > 0
	}
	if nested && bound == len(m.names) {
		m.remember(both)
	}
	return true
}

// remember keeps that two lists fit, and bind nothing: lists in which others stand are gone through once alone.
func (m *matcher) remember(both pair) {
	if m.plain == nil {
		m.plain = map[pair]struct{}{}
	}
	m.plain[both] = struct{}{}
}
