package model

import (
	"slices"

	"postbag/api"
	"postbag/value"
)

// reckoner reckons expressions.
type reckoner struct {
	names  []string
	values []api.Value
	atoms  []string
	self   int
	known  map[exprs][]api.Value
}

// exprs is where a list of expressions stands, and how long it is: trees share lists, and are then far greater than their memory.
type exprs struct {
	first  *api.Expr
	length int
}

// Eval tells an expression's value.
func Eval(e api.Expr, names []string, values []api.Value, atoms []string, self int) api.Value {
	r := reckoner{names: names, values: values, atoms: atoms, self: self}
	return r.expr(e)
}

func (r *reckoner) expr(e api.Expr) api.Value {
	switch e.Kind {
	case api.ExprInt:
		return integer(value.Wrap(e.N))
	case api.ExprAtom:
		if place := lastPlace(r.atoms, e.Name); place >= 0 {
			return api.Value{Kind: api.ValAtom, N: place}
		}
	case api.ExprVar:
		if place := lastPlace(r.names, e.Name); place >= 0 {
			return partOf(r.values, place)
		}
	case api.ExprSelf:
		return actorsNumber(r.self)
	case api.ExprTuple:
		return api.Value{Kind: api.ValTuple, Args: r.all(e.Args)}
	case api.ExprBin:
		parts := r.all(e.Args)
		return value.Op(e.Name, partOf(parts, 0), partOf(parts, 1))
	}
	return integer(0)
}

// all tells the values of a list's expressions.
func (r *reckoner) all(list []api.Expr) []api.Value {
	if len(list) == 0 {
		return nil
	}
	place := exprs{&list[0], len(list)}
	if values, ok := r.known[place]; ok {
		return values
	}
	values := make([]api.Value, len(list))
	nested := false
	for i, e := range list {
		values[i] = r.expr(e)
		nested = nested || len(e.Args) > 0
	}
	if nested {
		r.remember(place, values)
	}
	return values
}

// remember keeps a list's values: lists in which others stand are reckoned once alone.
func (r *reckoner) remember(place exprs, values []api.Value) {
	if r.known == nil {
		r.known = map[exprs][]api.Value{}
	}
	r.known[place] = values
}

// partOf tells a part of a list; the integer 0, if it is not there.
func partOf(list []api.Value, place int) api.Value {
	if place >= len(list) {
		return integer(0)
	}
	return list[place]
}

// lastPlace tells the last place of a text in a list; a number below 0, if it is not there.
func lastPlace(list []string, text string) int {
	for place, s := range slices.Backward(list) {
		if s == text {
			return place
		}
	}
	return -1
}

func integer(n int) api.Value { return api.Value{Kind: api.ValInt, N: n} }

func actorsNumber(n int) api.Value { return api.Value{Kind: api.ValPid, N: n} }
