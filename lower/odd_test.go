package lower_test

import (
	"fmt"
	"math"
	"reflect"
	"slices"
	"strconv"
	"testing"

	"postbag/api"
	"postbag/bench"
	"postbag/code"
	"postbag/compile"
	"postbag/image"
	"postbag/lower"
	"postbag/sched"
	"postbag/scope"
	"postbag/thrown"
)

func variable(s string) api.Expr { return api.Expr{Kind: api.ExprVar, Name: s} }

func integer(n int) api.Expr { return api.Expr{Kind: api.ExprInt, N: n} }

func group(l ...api.Expr) api.Expr { return api.Expr{Kind: api.ExprTuple, Args: l} }

func bin(s string, l ...api.Expr) api.Expr { return api.Expr{Kind: api.ExprBin, Name: s, Args: l} }

func out(e ...api.Expr) api.Stmt { return api.Stmt{Kind: api.StmtOut, Args: e} }

func let(name string, e ...api.Expr) api.Stmt {
	return api.Stmt{Kind: api.StmtLet, Name: name, Args: e}
}

// laid tells the image of a tree that no text has.
func laid(t *testing.T, p api.Program, atoms []string, c api.Conf) compile.Image {
	t.Helper()
	const room = 3000
	l, e := image.Lay(c, room, lower.Slots(p, atoms))
	if e != api.OK {
		t.Fatalf("Lay: error %d", int(e))
	}
	words, labels, e := code.Assemble(append(sched.Items(c, l), lower.Items(p, atoms)...), 0)
	if e != api.OK || len(words) > room {
		t.Fatalf("Assemble: error %d, %d words", int(e), len(words))
	}
	plain := api.Program{Defs: []api.Def{{Name: "A", Body: api.Body{Kind: api.EndStop}}}, Main: "A"}
	return compile.Image{Conf: c, Layout: l, Words: append(words, make([]uint32, room-len(words))...), Labels: labels, Atoms: atoms, Program: plain}
}

// toldOf tells what a tree tells that no text has; the model does not know it.
func toldOf(t *testing.T, p api.Program, atoms []string) string {
	t.Helper()
	w := begun(t, laid(t, p, atoms, roomy()))
	w.lost = true
	if !w.plays(bench.Script{Row: 5, Style: bench.Oldest}, most) {
		w.Fatalf("it goes on for too long")
	}
	return w.told()
}

// P25.2: a name that hides another one has a slot of its own, and counts up to the end of its body.
func TestHidden(t *testing.T) {
	inner := api.Body{Stmts: []api.Stmt{let("x", bin("+", variable("x"), integer(10))), out(variable("x"))}, Kind: api.EndStop}
	arm := api.Arm{Pattern: api.Pattern{Kind: api.PatVar, Name: "x"}, Guard: []api.Expr{bin("<", variable("x"), integer(0))}, Body: api.Body{Stmts: []api.Stmt{out(integer(9))}, Kind: api.EndStop}}
	other := api.Arm{Pattern: api.Pattern{Kind: api.PatTuple, Args: []api.Pattern{{Kind: api.PatVar, Name: "x"}, {Kind: api.PatVar, Name: "x"}}}, Body: inner}
	late := api.Body{Stmts: []api.Stmt{out(variable("x"))}, Kind: api.EndReceive, Arms: []api.Arm{arm, other}}
	p := api.Program{Main: "A", Args: []api.Expr{integer(1), integer(2)}, Defs: []api.Def{{Name: "A", Params: []string{"x", "x"}, Body: api.Body{
		Stmts: []api.Stmt{out(variable("x")), let("x", bin("+", variable("x"), integer(1))), let("x", bin("*", variable("x"), variable("x"))), out(variable("x")),
			{Kind: api.StmtSend, Args: []api.Expr{{Kind: api.ExprSelf}, integer(4)}}, {Kind: api.StmtSend, Args: []api.Expr{{Kind: api.ExprSelf}, group(integer(7), integer(8))}}},
		Kind: api.EndIf, Args: []api.Expr{variable("x")}, Parts: []api.Body{late, inner},
	}}}}
	if got := toldOf(t, p, nil); got != "2 9 9 18" {
		t.Errorf("%s", got)
	}
	if n := lower.Slots(p, nil); n != 7 {
		t.Errorf("%d slots", n)
	}
}

// P25.2: an atom's number is its place in the list, the last one; one that is not there is what it is for the model.
func TestAtoms(t *testing.T) {
	atom := func(s string) api.Expr { return api.Expr{Kind: api.ExprAtom, Name: s} }
	p := api.Program{Main: "A", Defs: []api.Def{{Name: "A", Body: api.Body{
		Stmts: []api.Stmt{out(atom("a")), out(atom("b")), out(atom("c")), out(bin("==", atom("a"), atom("a"))), {Kind: api.StmtSend, Args: []api.Expr{{Kind: api.ExprSelf}, atom("b")}}},
		Kind:  api.EndReceive,
		Arms: []api.Arm{
			{Pattern: api.Pattern{Kind: api.PatAtom, Name: "c"}, Body: api.Body{Stmts: []api.Stmt{out(integer(1))}, Kind: api.EndStop}},
			{Pattern: api.Pattern{Kind: api.PatAtom, Name: "b"}, Body: api.Body{Stmts: []api.Stmt{out(integer(2))}, Kind: api.EndStop}},
		},
	}}}}
	if got := toldOf(t, p, []string{"b", "a", "x", "b"}); got != "a1 a3 0 1 2" {
		t.Errorf("%s", got)
	}
}

// odd makes trees of any shape.
type odd struct{ *bench.Row }

func (o odd) number() int {
	return []int{0, 1, 2, -1, 3, 5, 7, math.MaxInt, math.MinInt, 1 << 61, 250}[o.Next(11)]
}

func (o odd) name() string {
	return []string{"", "A", "B", "x", "y", "a", "+", "-", "*", "<", "==", "none"}[o.Next(12)]
}

// some tells a list of so many parts at the most, and of none if it is too deep.
func some[T any](o odd, deep, n int, one func(int) T) []T {
	var l []T
	for range o.Next(n + 1) {
		if deep > 0 {
			l = append(l, one(deep-1))
		}
	}
	return l
}

func (o odd) expr(deep int) api.Expr {
	return api.Expr{Kind: o.Next(8), N: o.number(), Name: o.name(), Args: some(o, deep, 3, o.expr)}
}

func (o odd) pattern(deep int) api.Pattern {
	return api.Pattern{Kind: o.Next(7), N: o.number(), Name: o.name(), Args: some(o, deep, 3, o.pattern)}
}

func (o odd) stmt(deep int) api.Stmt {
	return api.Stmt{Kind: o.Next(6), Name: o.name(), Actor: o.name(), Args: some(o, deep, 3, o.expr)}
}

func (o odd) arm(deep int) api.Arm {
	return api.Arm{Pattern: o.pattern(min(deep, 4)), Guard: some(o, deep, 2, o.expr), Body: o.body(deep - 1)}
}

func (o odd) body(deep int) api.Body {
	deep = max(deep, 0)
	return api.Body{Stmts: some(o, deep, 3, o.stmt), Kind: o.Next(6), Actor: o.name(), Args: some(o, deep, 3, o.expr), Parts: some(o, deep, 2, o.body), Arms: some(o, deep, 2, o.arm), Late: o.Next(2) == 0, After: o.number()}
}

func (o odd) program() api.Program {
	return api.Program{Main: o.name(), Args: some(o, 3, 3, o.expr), Defs: some(o, 1, 3, func(int) api.Def {
		return api.Def{Name: o.name(), Params: some(o, 1, 9, func(int) string { return o.name() }), Body: o.body(4)}
	})}
}

// Rule 1: of trees of any shape there is an answer, too; and there is one slot at least.
func TestOdd(t *testing.T) {
	r := bench.Row(61)
	for range 3000 {
		p := odd{&r}.program()
		atoms := some(odd{&r}, 1, 4, func(int) string { return odd{&r}.name() })
		if n := lower.Slots(p, atoms); n < 1 {
			t.Fatalf("%+v: %d slots", p, n)
		}
		lower.Items(p, atoms)
	}
	if n := lower.Slots(api.Program{}, nil); n != 1 {
		t.Error(n)
	}
}

// endless tells programs in which a list stands in another one so often that there are far more parts than can be gone through, each in another place.
func endless() map[string]api.Program {
	expr, pat, body := integer(1), api.Pattern{Kind: api.PatVar, Name: "x"}, api.Body{Kind: api.EndStop}
	arm := api.Arm{Pattern: pat, Body: body}
	for range 70 {
		expr = bin("+", group(expr, expr), group(expr, expr))
		pat = api.Pattern{Kind: api.PatTuple, Args: []api.Pattern{pat, pat, pat, pat}}
		body = api.Body{Kind: api.EndIf, Parts: []api.Body{body, body}}
		arm.Body = api.Body{Kind: api.EndReceive, Arms: []api.Arm{arm, arm}}
	}
	stop := api.Body{Kind: api.EndStop}
	l := map[string]api.Body{
		"a statement": {Stmts: []api.Stmt{out(expr)}},
		"an end":      {Kind: api.EndIf, Args: []api.Expr{expr}, Parts: []api.Body{stop, stop}},
		"a guard":     {Kind: api.EndReceive, Arms: []api.Arm{{Guard: []api.Expr{expr}, Body: stop}}},
		"a pattern":   {Kind: api.EndReceive, Arms: []api.Arm{{Pattern: pat, Body: stop}}},
		"a part":      {Kind: api.EndIf, Parts: []api.Body{body, stop}},
		"an arm":      {Kind: api.EndReceive, Arms: []api.Arm{{Body: arm.Body}}},
		"a late part": {Kind: api.EndReceive, Late: true, Parts: []api.Body{body}},
		"statements":  {Stmts: make([]api.Stmt, 1<<20)},
		"arms":        {Kind: api.EndReceive, Arms: make([]api.Arm, 1<<20)},
		"parts":       {Kind: api.EndReceive, Late: true, Parts: make([]api.Body, 1<<20)},
		"a tuple":     {Stmts: []api.Stmt{out(group(make([]api.Expr, 1<<20)...))}},
	}
	programs := map[string]api.Program{"main": {Main: "A", Args: []api.Expr{expr}}, "Defs": {Defs: make([]api.Def, 1<<20)}}
	for what, b := range l {
		programs[what] = api.Program{Main: "A", Defs: []api.Def{{Name: "A", Body: b}}}
	}
	return programs
}

// Rule 1: of trees that are far greater than a program may be there is an answer, too.
func TestEndless(t *testing.T) {
	for what, p := range endless() {
		if n := lower.Slots(p, nil); n != 1 || len(lower.Items(p, nil)) != 0 {
			t.Errorf("%s: %d slots", what, n)
		}
	}
}

// Rule 1: so is there of deep ones, and of those that are as great as a program may be in one place.
func TestDeepTrees(t *testing.T) {
	for _, parts := range []int{100, 2000, 1 << 16} {
		expr, body, pat := integer(1), api.Body{Kind: api.EndStop}, api.Pattern{Kind: api.PatVar, Name: "x"}
		for range parts {
			expr = group(expr)
			body = api.Body{Kind: api.EndIf, Stmts: []api.Stmt{let("x")}, Parts: []api.Body{body}}
			pat = api.Pattern{Kind: api.PatTuple, Args: []api.Pattern{pat}}
		}
		arm := api.Arm{Pattern: pat, Guard: []api.Expr{variable("x")}, Body: api.Body{Kind: api.EndStop}}
		for k, b := range []api.Body{body, {Stmts: []api.Stmt{out(expr)}}, {Kind: api.EndReceive, Arms: []api.Arm{arm}}} {
			p := api.Program{Main: "A", Defs: []api.Def{{Name: "A", Body: b}}}
			if l := lower.Items(p, nil); (len(l) == 0) != (parts > 4096) {
				t.Errorf("%d, %d deep: %d items", k, parts, len(l))
			}
		}
	}
	for k, e := range []api.Expr{group(make([]api.Expr, 4080)...), group(slices.Repeat([]api.Expr{bin("+")}, 4080)...), group(slices.Repeat([]api.Expr{bin("+", integer(1), integer(2))}, 1360)...)} {
		p := api.Program{Main: "A", Defs: []api.Def{{Name: "A", Body: api.Body{Kind: api.EndStop, Stmts: []api.Stmt{out(e)}}}}}
		if l := lower.Items(p, nil); len(l) < 4000 || lower.Slots(p, nil) < 1000 {
			t.Errorf("%d: %d items", k, len(l))
		}
	}
	var params []string
	for k := range 5000 {
		params = append(params, strconv.Itoa(k))
	}
	if n := lower.Slots(api.Program{Defs: []api.Def{{Params: params}}}, params); n != 5000 {
		t.Errorf("%d slots", n)
	}
}

// Rules 4, 5: what is handed in stays as it was, spare room too, and what is asked again is told again.
func TestKept(t *testing.T) {
	r := bench.Row(62)
	for range 60 {
		p := thrown.Program(&r, thrown.Style{Rounds: 3, Spawns: 1, Deep: 3})
		for k := range p.Defs {
			b := &p.Defs[k].Body
			b.Stmts = append(slices.Grow(b.Stmts, 3), let("more"))[:len(b.Stmts)]
			b.Args = append(slices.Grow(b.Args, 3), integer(3))[:len(b.Args)]
		}
		atoms := append(slices.Grow(scope.Atoms(p), 3), "more")
		atoms = atoms[:len(atoms)-1]
		shown := func() string {
			s := fmt.Sprintf("%#v %#v", p, atoms[:cap(atoms)])
			for _, d := range p.Defs {
				s += fmt.Sprintf("%#v %#v", d.Body.Stmts[:cap(d.Body.Stmts)], d.Body.Args[:cap(d.Body.Args)])
			}
			return s
		}
		before := shown()
		l, n := lower.Items(p, atoms), lower.Slots(p, atoms)
		if !reflect.DeepEqual(l, lower.Items(p, atoms)) || n != lower.Slots(p, atoms) {
			t.Fatal("asked again")
		}
		if shown() != before {
			t.Fatal("what was handed in is another one")
		}
	}
}
