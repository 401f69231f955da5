package pattern_test

import (
	"fmt"
	"slices"
	"testing"

	"postbag/api"
	"postbag/pattern"
)

// shown is all of something, the spare room of a list too.
func shown[T any](l []T) string { return fmt.Sprintf("%#v", l[:cap(l)]) }

// Rules 4 and 8: what is handed in stays as it was, its spare room too, and what lies behind a list's length is not read.
func TestKept(t *testing.T) {
	spare := []api.Pattern{group(variable("x"), named("a"), whole(1)), whole(2), named("b"), variable("y")}
	spare[0].Args = spare[0].Args[:2]
	p := group(spare[:2]...)
	l := []api.Pattern{p, whole(3), p, p, variable("z"), {}}[:3]
	names := []string{"a", "c", "b"}[:2]
	parts := []api.Value{tuple(integer(1), atom(0)), integer(2), atom(2)}
	v := tuple(parts[:2]...)
	path := []int{0, 1, 0}[:2]
	nodes := []pattern.Node{ask(2, 1, 2), ask(3, 2, 2), {Arm: 5}}[:2]
	before := shown(spare) + shown(l) + shown(names) + shown(parts) + shown(path) + shown(nodes)
	if s := told(pattern.Tests(p, names), asked); s != "/t2 0/t2 0.1/a0 1/i2" {
		t.Error(s)
	}
	if s := told(pattern.Tests(named("b"), names), asked); s != "/a-1" {
		t.Error(s)
	}
	if s := bound(pattern.Vars(p)); s != "0.0/x" {
		t.Error(s)
	}
	if part, ok := pattern.At(v, path); !ok || !same(part, atom(0)) {
		t.Error(part, ok)
	}
	if _, ok := pattern.At(v, []int{2}); ok || pattern.Fits(pattern.Test{Path: []int{2}, Kind: api.PatAtom, N: 2}, v) {
		t.Error("a part behind the list's length")
	}
	if !pattern.Fits(pattern.Test{Path: path, Kind: api.PatAtom}, v) {
		t.Error("it does not fit")
	}
	plan, firsts := pattern.Plan(l, names)
	if len(plan) != 13 || len(firsts) != 3 || pattern.Go(plan, 0, v) != 0 {
		t.Error(len(plan), firsts)
	}
	if arm := pattern.Go(nodes, 0, v); arm != -2 {
		t.Error("a node behind the list's length:", arm)
	}
	if after := shown(spare) + shown(l) + shown(names) + shown(parts) + shown(path) + shown(nodes); after != before {
		t.Errorf("%s\nnot %s", after, before)
	}
}

// filled has each number of a list, and of its spare room, be that number.
func filled(path []int, n int) {
	path = path[:cap(path)]
	for i := range path {
		path[i] = n
	}
}

// isFilled tells whether each number of a list is that one.
func isFilled(path []int, n int) bool {
	return !slices.ContainsFunc(path, func(m int) bool { return m != n })
}

// Rule 4: each Path is in memory of its own, and no answer is kept.
func TestOwnPaths(t *testing.T) {
	p := laid(t, "{{x, {'a, y}}, {1, z}, w, {'b, v}}")
	l := []api.Pattern{p, p, laid(t, "{{1, {'a, 2}}, 3}"), p}
	tests, plan := told(pattern.Tests(p, atoms()), asked), ""
	nodes, firsts := pattern.Plan(l, atoms())
	plan = told(nodes, noded)
	vars := bound(pattern.Vars(p))
	var all [][]int
	for _, x := range pattern.Tests(p, atoms()) {
		all = append(all, x.Path)
	}
	for _, n := range nodes {
		all = append(all, n.Test.Path)
	}
	_, paths := pattern.Vars(p)
	all = append(append(all, paths...), firsts)
	for i, path := range all {
		filled(path, i)
	}
	for i, path := range all {
		if !isFilled(path, i) {
			t.Errorf("list %d has %v", i, path)
		}
	}
	again, from := pattern.Plan(l, atoms())
	if told(pattern.Tests(p, atoms()), asked) != tests || told(again, noded) != plan || bound(pattern.Vars(p)) != vars || from[1] != 9 {
		t.Error("what is told hangs on an answer")
	}
}
