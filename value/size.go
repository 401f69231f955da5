package value

import (
	"math"

	"postbag/api"
)

// The ends of what N may be.
const (
	leastInt  = -1 << 61
	mostInt   = 1<<61 - 1
	mostPlace = 1<<20 - 1 // of an atom, and of an actor
)

// head is a value without its parts: of them there is left how many they are.
type head struct{ kind, n, parts int }

func headOf(v api.Value) head { return head{v.Kind, v.N, len(v.Args)} }

// may tells whether a value may be, as far as its head tells. It is held against a head that has only what its kind has.
func (h head) may() bool {
	alone := head{kind: h.kind, n: h.n}
	switch h.kind {
	case api.ValInt:
		return h == alone && within(h.n, leastInt, mostInt)
	case api.ValAtom, api.ValPid:
		return h == alone && within(h.n, 0, mostPlace)
	case api.ValTuple:
		return h == head{kind: h.kind, parts: h.parts} && within(h.parts, 1, api.MaxTuple)
	}
	return false
}

// within tells whether a number is from one on up to another one.
func within(n, from, to int) bool { return from <= n && n <= to }

// list is where a list stands, and how long it is. Values share lists, and are then far greater than their memory:
// what is known of a list is known wherever it stands.
type list struct {
	first  *api.Value
	length int
}

func listOf(l []api.Value) list {
	if len(l) == 0 {
		return list{}
	}
	return list{&l[0], len(l)}
}

// size is how many words a value's tuples have, and how many of them stand in one another.
type size struct{ words, deep int }

// measured tells a value's size, and whether it may be; no size, if it may not be.
func measured(v api.Value) (size, bool) {
	known := map[list]size{}
	var measure func(v api.Value, around int) (size, bool)
	measure = func(v api.Value, around int) (size, bool) {
		if !headOf(v).may() {
			return size{}, false
		}
		if v.Kind != api.ValTuple {
			return size{}, true
		}
		place := listOf(v.Args)
		s, ok := known[place]
		if around+max(s.deep, 1) > api.MaxDepth {
			return size{}, false
		}
		if ok {
			return s, true
		}
		s.words = 1 + len(v.Args)
		for _, part := range v.Args {
			inner, good := measure(part, around+1)
			if !good {
				return size{}, false
			}
			s.words = sum(s.words, inner.words)
			s.deep = max(s.deep, inner.deep)
		}
		s.deep++
		known[place] = s
		return s, true
	}
	return measure(v, 0)
}

// sum tells that of two numbers that are not below 0; the greatest number, if it is above that.
func sum(a, b int) int { return a + min(b, math.MaxInt-a) }
