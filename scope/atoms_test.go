package scope_test

import (
	"slices"
	"strings"
	"testing"

	"postbag/api"
	"postbag/scope"
	"postbag/tree"
)

// P14.2: atoms wherever they may stand, each once, rising byte by byte.
func TestAtoms(t *testing.T) {
	for src, want := range map[string]string{
		"actor A() { stop } main A()":                                                       "",
		"actor a(b) { out b; stop } main a(1)":                                              "",
		"actor A() { stop } main A('a)":                                                     "a",
		"actor A() { stop } main A({1, {'b, 'a}})":                                          "a b",
		"actor A() { out 'a; stop } main A('a, 'a)":                                         "a",
		"actor A() { let x = 'd; let y = spawn A('c); send 'b, 'a; out 'e; stop } main A()": "a b c d e",
		"actor A() { become A('z, 'y + 'x * 'w) } main A()":                                 "w x y z",
		"actor A() { if 'c == 'b { out 'a; stop } else { out 'd; stop } } main A()":         "a b c d",
		"actor A() { receive { 'p { stop } {'q, {'r, _}} when x == 's { out 't; stop } after 1 { out 'u; stop } } } main A()": "p q r s t u",
		"actor A() { receive { 'p { out 'p; stop } {'p} when 'p { stop } } } main A('p)":                                      "p",
		// As bytes: signs and capitals go ahead of small letters, a shorter name ahead of one that it begins.
		"actor A() { out {'a, 'A, '_a, 'a_}; out {'aa, 'a1, 'Z, 'z}; out {'ab, 'aB, 'a, 'abc}; stop } main A()": "A Z _a a a1 aB a_ aa ab abc z",
		"actor A() { out {'b, 'ba, 'baa, 'ab}; stop } main A('b)":                                               "ab b ba baa",
		"actor A() { out '" + strings.Repeat("n", 32) + "; stop } main A('n)":                                   "n " + strings.Repeat("n", 32),
		// Names of variables and actors are no atoms.
		"actor a(b) { let c = 'x; receive { d { become a(b + c + d) } } } main a('y)": "x y",
		// And of a program whose names are not there.
		"actor A() { out x + 'a; become B('b) } main C('c)": "a b c",
	} {
		if l := scope.Atoms(laid(t, src)); !slices.Equal(l, strings.Fields(want)) {
			t.Errorf("%q: %q, not %q", src, l, want)
		}
	}
}

// P14.2: thrown programs, held against the words of their texts.
func TestAtomsPlainly(t *testing.T) {
	for _, slip := range []int{0, 10} {
		for _, p := range thrown(row(slip+1), 500, slip) {
			if l, want := scope.Atoms(p), atomsOf(p); !slices.Equal(l, want) {
				t.Fatalf("%q, not %q: %s", l, want, tree.Print(p))
			}
		}
	}
}

// P14.3: a program that is right stays right when all its variables get another letter ahead.
func TestRenamed(t *testing.T) {
	for _, letter := range []string{"z", "A", "_"} {
		ahead := func(s string) string { return letter + s }
		for _, p := range thrown(7, 300, 0) {
			q := variables(p, ahead)
			if at, e := scope.Check(q); at != 0 || e != api.OK {
				t.Fatalf("%d at %d: %s", int(e), at, tree.Print(q))
			}
		}
		// And what is wrong stays so, at its place.
		for _, p := range thrown(8, 300, 30) {
			at, e := scope.Check(p)
			if n, f := scope.Check(variables(p, ahead)); n != at || f != e {
				t.Fatalf("%d at %d, not %d at %d: %s", int(f), n, int(e), at, tree.Print(p))
			}
		}
	}
	// Unless a name gets too long.
	for _, n := range []int{1, 30, 31, 32} {
		name := strings.Repeat("x", n)
		p := laid(t, "actor A("+name+") { out "+name+"; stop } main A(1)")
		at, e := scope.Check(variables(p, func(s string) string { return "y" + s }))
		if at != 0 || (e == api.OK) != (n < 32) || e != api.OK && e != api.ErrSyntax {
			t.Errorf("%d bytes: %d at %d", n, int(e), at)
		}
	}
}
