package pattern_test

import (
	"fmt"
	"slices"
	"strings"
	"testing"

	"postbag/api"
	"postbag/parse"
	"postbag/pattern"
)

func integer(n int) api.Value { return api.Value{Kind: api.ValInt, N: n} }

func atom(n int) api.Value { return api.Value{Kind: api.ValAtom, N: n} }

func pid(n int) api.Value { return api.Value{Kind: api.ValPid, N: n} }

func tuple(parts ...api.Value) api.Value { return api.Value{Kind: api.ValTuple, Args: parts} }

func whole(n int) api.Pattern { return api.Pattern{Kind: api.PatInt, N: n} }

func named(name string) api.Pattern { return api.Pattern{Kind: api.PatAtom, Name: name} }

func variable(name string) api.Pattern { return api.Pattern{Kind: api.PatVar, Name: name} }

func group(parts ...api.Pattern) api.Pattern { return api.Pattern{Kind: api.PatTuple, Args: parts} }

// laid is the pattern of a text.
func laid(t *testing.T, src string) api.Pattern {
	t.Helper()
	p, at, e := parse.Program([]byte("actor A() { receive { " + src + " { stop } } } main A()"))
	if e != api.OK {
		t.Fatalf("%q: %d at %d", src, int(e), at)
	}
	return p.Defs[0].Body.Arms[0].Pattern
}

// allLaid are the patterns of texts.
func allLaid(t *testing.T, srcs ...string) []api.Pattern {
	t.Helper()
	var l []api.Pattern
	for _, src := range srcs {
		l = append(l, laid(t, src))
	}
	return l
}

// placed is a path in front of what stands at its end.
func placed(path []int, what string) string {
	return strings.ReplaceAll(strings.Trim(fmt.Sprint(path), "[]"), " ", ".") + "/" + what
}

// asked is a test's text: its Path, a letter for its Kind (or its number), and N.
func asked(x pattern.Test) string {
	kind := fmt.Sprint(x.Kind, "?")
	switch x.Kind {
	case api.PatInt:
		kind = "i"
	case api.PatAtom:
		kind = "a"
	case api.PatTuple:
		kind = "t"
	}
	return placed(x.Path, kind+fmt.Sprint(x.N))
}

// told is the text of a list, with blanks between its parts.
func told[T any](l []T, text func(T) string) string {
	var parts []string
	for _, x := range l {
		parts = append(parts, text(x))
	}
	return strings.Join(parts, " ")
}

// bound is the text of variables.
func bound(names []string, paths [][]int) string {
	if len(names) != len(paths) {
		return "not as many names as Paths"
	}
	var parts []string
	for i, name := range names {
		parts = append(parts, placed(paths[i], name))
	}
	return strings.Join(parts, " ")
}

// noded is a node's text: of a leaf its Arm, of a test where it goes.
func noded(n pattern.Node) string {
	if n.Arm == -1 {
		return fmt.Sprint(asked(n.Test), "?", n.Yes, ":", n.No)
	}
	if n.Yes != 0 || n.No != 0 || len(n.Test.Path) > 0 || n.Test.Kind != 0 || n.Test.N != 0 {
		return "a leaf with more than its Arm"
	}
	return fmt.Sprint("=", n.Arm)
}

// same tells plainly whether all of two values is the same.
func same(a, b api.Value) bool {
	return a.Kind == b.Kind && a.N == b.N && slices.EqualFunc(a.Args, b.Args, same)
}

// row tells numbers that look thrown, the same ones each time.
type row uint64

func (r *row) next(n int) int {
	*r = *r*6364136223846793005 + 1442695040888963407
	return int(uint64(*r) >> 33 % uint64(n))
}

func one[T any](r *row, l ...T) T { return l[r.next(len(l))] }

// some is a list of from one number on up to another one of parts.
func some[T any](r *row, from, to int, part func() T) []T {
	var l []T
	for range from + r.next(to-from+1) {
		l = append(l, part())
	}
	return l
}

// atoms are those of thrown patterns: one stands there twice; d does not.
func atoms() []string { return []string{"a", "b", "c", "b"} }

// pattern is one of the five Kinds, of few unlike parts, so that patterns often have tests in common.
func (r *row) pattern(deep int) api.Pattern {
	kind := one(r, api.PatAny, api.PatInt, api.PatAtom, api.PatVar, api.PatTuple, api.PatTuple)
	if deep == 0 {
		kind = one(r, api.PatAny, api.PatInt, api.PatAtom, api.PatVar)
	}
	switch kind {
	case api.PatInt:
		return whole(one(r, 0, 1, 2, -1, 1<<61-1))
	case api.PatAtom:
		return named(one(r, "a", "b", "c", "d"))
	case api.PatVar:
		return variable(one(r, "x", "y", "z"))
	case api.PatTuple:
		return group(some(r, 1, 4, func() api.Pattern { return r.pattern(deep - 1) })...)
	}
	return api.Pattern{Kind: kind}
}

// odd is a pattern of any shape.
func (r *row) odd(deep int) api.Pattern {
	p := r.pattern(deep)
	switch r.next(5) {
	case 0:
		p.Kind = one(r, -1, 0, 1, 2, 3, 4, 5, 6, 1<<40)
	case 1:
		p.Args = some(r, 0, 6, func() api.Pattern { return r.odd(max(deep-1, 0)) })
	case 2:
		p.N, p.Name, p.At = r.next(9), one(r, "a", "x", ""), r.next(9)
	}
	return p
}

// value is one that may be.
func (r *row) value(deep int) api.Value {
	kind := one(r, api.ValInt, api.ValAtom, api.ValPid, api.ValTuple, api.ValTuple)
	if deep == 0 {
		kind = one(r, api.ValInt, api.ValAtom, api.ValPid)
	}
	switch kind {
	case api.ValInt:
		return integer(one(r, 0, 1, 2, 3, -1, 1<<61-1, -1<<61))
	case api.ValTuple:
		return tuple(some(r, 1, 4, func() api.Value { return r.value(deep - 1) })...)
	}
	return api.Value{Kind: kind, N: r.next(5)}
}

// fitting is a value that fits a pattern, or nearly.
func (r *row) fitting(p api.Pattern, l []string) api.Value {
	if r.next(25) == 0 {
		return r.value(2)
	}
	switch p.Kind {
	case api.PatInt:
		return integer(p.N)
	case api.PatAtom:
		return atom(max(plainPlace(p.Name, l), 0))
	case api.PatTuple:
		var parts []api.Value
		for _, part := range p.Args {
			parts = append(parts, r.fitting(part, l))
		}
		return tuple(parts...)
	}
	return r.value(2)
}
