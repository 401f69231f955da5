package model_test

import (
	"fmt"
	"slices"
	"testing"

	"postbag/api"
	"postbag/model"
	"postbag/tree"
	"postbag/value"
)

// pairing holds models' Keys against what a second telling says of them: one Key for each state.
type pairing struct{ states, keys map[string]string }

func (p pairing) wrong(key, state string) bool {
	s, ok := p.states[key]
	k, known := p.keys[state]
	p.states[key], p.keys[state] = state, key
	return key == "" || ok && s != state || known && k != key
}

// P16.4, P16.5: thrown programs and thrown moves, held against a second telling; clones are gone on with beside their origins.
func TestPlainly(t *testing.T) {
	r := row(1)
	errors := map[api.Errno]int{}
	moves := map[string]int{}
	for _, p := range slices.Concat(thrown(t, 2, 250), programs(t), programs(t)) {
		m, e := model.New(p)
		w, f := plainly(p)
		if e != f {
			t.Fatalf("%d, not %d: %s", int(e), int(f), tree.Print(p))
		}
		ms, ws := []*model.Model{m}, []*plain{w}
		seen := pairing{map[string]string{}, map[string]string{}}
		for range 90 {
			k := r.next(len(ms))
			if s := ws[k].wrong(ms[k]); s != "" {
				t.Fatalf("%s: %s", s, tree.Print(p))
			}
			if seen.wrong(ms[k].Key(), ws[k].state()) {
				t.Fatalf("Key %q: %s", ms[k].Key(), tree.Print(p))
			}
			if len(ms) < 4 && r.next(12) == 0 {
				ms, ws = append(ms, ms[k].Clone()), append(ws, ws[k].clone())
			}
			x := model.Move{Kind: r.next(5) - 1, Actor: r.next(ms[k].Actors()+2) - 1}
			if l := ms[k].Moves(); len(l) > 0 && r.next(5) > 0 {
				x = one(&r, l...)
			}
			kind := fmt.Sprint(x.Kind, ms[k].Next(x.Actor))
			if args := ms[k].Args(x.Actor); kind == "0 3" && len(args) > 0 && args[0].Kind == api.ValPid && ms[k].Next(args[0].N) == model.None {
				kind = "to one that has stopped"
			}
			v, tells, e := ms[k].Do(x)
			told, f := ws[k].do(x)
			if e != f || tells != (told != "") || tells && value.Text(v) != told || !tells && value.Text(v) != "{}" {
				t.Fatalf("%v: %s, %v, %d, not %s, %d: %s", x, value.Text(v), tells, int(e), told, int(f), tree.Print(p))
			}
			errors[e]++
			if e == api.OK {
				moves[kind]++
			}
		}
	}
	for _, e := range []api.Errno{api.OK, api.ErrModel, api.ErrWait, api.ErrRoom} {
		if errors[e] < 5 {
			t.Errorf("%d: %d times alone", int(e), errors[e])
		}
	}
	for _, kind := range []string{"0 1", "0 2", "0 3", "0 4", "0 5", "0 6", "1 5", "2 5", "to one that has stopped"} {
		if moves[kind] < 50 {
			t.Errorf("%s: %d times alone", kind, moves[kind])
		}
	}
}
