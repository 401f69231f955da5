package pattern_test

import (
	"slices"
	"testing"

	"postbag/api"
	"postbag/model"
	"postbag/pattern"
	"postbag/value"
)

// P17.3: all tests fit just if the model says that the pattern does, and the parts at the variables' Paths are what it binds.
func TestMatch(t *testing.T) {
	r := row(4)
	fitting, variables := 0, 0
	for range 20000 {
		p := r.pattern(3)
		v := one(&r, r.fitting(p, atoms()), r.value(3))
		if !value.Good(v) {
			t.Fatalf("%+v may not be", v)
		}
		fits := true
		for _, x := range pattern.Tests(p, atoms()) {
			fits = fits && pattern.Fits(x, v)
		}
		names, values, want := model.Match(p, v, atoms())
		if fits != want {
			t.Fatalf("%+v, %s: %v", p, value.Text(v), fits)
		}
		if !fits {
			continue
		}
		fitting++
		vars, paths := pattern.Vars(p)
		if !slices.Equal(vars, names) || len(paths) != len(values) {
			t.Fatalf("%+v: %v, not %v", p, vars, names)
		}
		for i, path := range paths {
			variables++
			if part, ok := pattern.At(v, path); !ok || !same(part, values[i]) {
				t.Fatalf("%+v, %s: %s is %s", p, value.Text(v), vars[i], value.Text(part))
			}
		}
	}
	if fitting < 4000 || fitting > 16000 || variables < 2000 {
		t.Errorf("%d fit, with %d variables", fitting, variables)
	}
}

// P17.4: from a pattern's first node on the first one is told all of whose tests fit.
func TestFirst(t *testing.T) {
	r := row(5)
	arms, none := 0, 0
	for range 5000 {
		l := some(&r, 0, 7, func() api.Pattern { return r.pattern(2) })
		nodes, firsts := pattern.Plan(l, atoms())
		if len(firsts) != len(l) {
			t.Fatalf("%d first nodes of %d patterns", len(firsts), len(l))
		}
		for k, first := range firsts {
			v := r.fitting(one(&r, l...), atoms())
			want := plainFirst(l, atoms(), k, v)
			if arm := pattern.Go(nodes, first, v); arm != want {
				t.Fatalf("%+v, %s from %d: %d, not %d", l, value.Text(v), k, arm, want)
			}
			if want > k {
				arms++
			}
			if want < 0 {
				none++
			}
		}
	}
	if arms < 2000 || none < 2000 {
		t.Errorf("%d fit one that is behind, %d none", arms, none)
	}
}
