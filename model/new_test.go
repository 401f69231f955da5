package model_test

import (
	"testing"

	"postbag/api"
	"postbag/model"
	"postbag/scope"
	"postbag/value"
)

// P16.3: a model of one actor, of Main, with its Args' values.
func TestNew(t *testing.T) {
	m := begun(t, "actor A(x, y, z) { out {x, y, z, 'b}; stop } actor B() { stop } main A(1 + 1, {'b, 'a}, self)")
	if n := m.Actors(); n != 1 {
		t.Error(n)
	}
	stands(t, m, 0, model.Out, "{2,{a1,a0},p0,a1}", "", "")
	stands(t, begun(t, "actor A() { out 'A; stop } actor B() { out 'B; stop } main B()"), 0, model.Out, "a1", "", "")
}

// P16.3: what is wrong with the program; then a value of Main that is too great.
func TestNewWrong(t *testing.T) {
	isWrong := func(what string, p api.Program, want api.Errno) {
		t.Helper()
		if m, e := model.New(p); m != nil || e != want {
			t.Errorf("%s: %d, not %d", what, int(e), int(want))
		}
	}
	isWrong("no program", api.Program{}, api.ErrSyntax)
	for src, want := range map[string]api.Errno{
		"actor A() { out x; stop } main A()":                     api.ErrName,
		"actor A() { stop } main B()":                            api.ErrName,
		"actor A() { stop } main A(1)":                           api.ErrArity,
		"actor A(x) { let x = 1; stop } main A(1)":               api.ErrTwice,
		"actor A(x) { out y; stop } main A(" + great(4096) + ")": api.ErrName,
		"actor A(x) { stop } main A(" + great(4095) + ")":        api.OK,
		"actor A(x) { stop } main A(" + great(4096) + ")":        api.OK,
		"actor A(x) { stop } main A(" + great(4097) + ")":        api.ErrRoom,
		"actor A(x, y) { stop } main A(1, " + great(4097) + ")":  api.ErrRoom,
	} {
		p := laid(t, src)
		if _, e := scope.Check(p); want != api.ErrRoom && e != want {
			t.Fatalf("%.60s: %d", src, int(e))
		}
		if want != api.OK {
			isWrong(src[:min(len(src), 40)], p, want)
		} else if m, e := model.New(p); m == nil || e != api.OK {
			t.Errorf("%.60s: %d", src, int(e))
		}
	}
}

// A text that is as great as it should be.
func TestGreat(t *testing.T) {
	for _, n := range []int{0, 2, 3, 4, 5, 6, 7, 8, 9, 10, 11, 12, 13, 14, 15, 16, 17, 18, 19, 20, 31, 100, 4094, 4095, 4096, 4097, 4098} {
		if w := value.Words(model.Eval(expr(t, great(n)), nil, nil, nil, 0)); w != n {
			t.Fatal(n, w)
		}
	}
}

// great is the text of a tuple that has so many words in all, of which 1 can't be.
func great(words int) string {
	switch words {
	case 0:
		return "0"
	case 2:
		return "{0}"
	case 4:
		return "{0, 0, 0}"
	case 5:
		return "{0, 0, 0, 0}"
	case 6:
		return "{0, {0, 0}}"
	}
	half := (words - 3) / 2
	return "{" + great(half) + ", " + great(words-3-half) + "}"
}
