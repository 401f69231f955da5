package tree_test

import (
	"testing"

	"postbag/api"
	"postbag/tree"
)

// isSame holds two trees against each other, both ways.
func isSame(t *testing.T, a, b api.Program, want bool) {
	t.Helper()
	if tree.Same(a, b) != want || tree.Same(b, a) != want {
		t.Fatalf("not %t: %s and %s", want, spell(a), spell(b))
	}
}

// P12.2: trees are the same, whatever lists they stand in, and whatever the places of their parts.
func TestSame(t *testing.T) {
	r := row(5)
	for range 200 {
		p := r.program()
		q := copied(p)
		isSame(t, p, p, true)
		isSame(t, p, q, true)
		_, ats := places(&q)
		for _, at := range ats {
			at.value.SetInt(int64(r.next(100)) - 50)
		}
		isSame(t, p, q, true)
	}
}

// P12.2: trees that are unlike in At alone are the same, whichever part's it is.
func TestSameButAt(t *testing.T) {
	r := row(6)
	for range 30 {
		p := r.program()
		_, ats := places(&p)
		for i := range ats {
			q := copied(p)
			_, there := places(&q)
			there[i].value.SetInt(7)
			isSame(t, p, q, true)
		}
	}
}

// P12.2: trees that are unlike in one place alone are not the same, whichever it is.
func TestSameUnlike(t *testing.T) {
	r := row(7)
	for range 15 {
		p := r.program()
		real, _ := places(&p)
		for i := range real {
			for range 3 {
				q := copied(p)
				there, _ := places(&q)
				r.alter(there[i].value)
				isSame(t, p, q, false)
			}
		}
	}
}

// P12.2: parts in another order are not the same.
func TestSameOrder(t *testing.T) {
	a, b := out(self()), out(number(1))
	isSame(t, ended(stop(a, b)), ended(stop(b, a)), false)
	isSame(t, reckoned(self(), number(1)), reckoned(number(1), self()), false)
	isSame(t, matched(isTuple(anything(), binds("x"))), matched(isTuple(binds("x"), anything())), false)
	isSame(t, program("A", nil, def("A", stop()), def("B", stop())), program("A", nil, def("B", stop()), def("A", stop())), false)
	isSame(t, program("A", nil, def("A", stop(), "a", "b")), program("A", nil, def("A", stop(), "b", "a")), false)
	isSame(t, ended(either(self(), stop(), stop(a))), ended(either(self(), stop(a), stop())), false)
	isSame(t, ended(receive(arm(anything(), stop()), arm(binds("x"), stop()))), ended(receive(arm(binds("x"), stop()), arm(anything(), stop()))), false)
	// What is a statement's, and what is the end's.
	isSame(t, reckoned(tuple(self(), tuple(self()))), reckoned(tuple(tuple(self()), self())), false)
	isSame(t, reckoned(tuple(tuple(self()), self())), reckoned(tuple(tuple(self(), self()))), false)
}

// P12.2: of a list without an element it does not count whether it is there.
func TestSameOfNone(t *testing.T) {
	isSame(t, api.Program{}, api.Program{Defs: []api.Def{}, Args: []api.Expr{}}, true)
	isSame(t, ended(stop()), ended(api.Body{Kind: api.EndStop, Stmts: []api.Stmt{}, Args: []api.Expr{}, Parts: []api.Body{}, Arms: []api.Arm{}}), true)
	isSame(t, reckoned(self()), reckoned(api.Expr{Kind: api.ExprSelf, Args: []api.Expr{}}), true)
	isSame(t, matched(anything()), matched(api.Pattern{Kind: api.PatAny, Args: []api.Pattern{}}), true)
	isSame(t, program("A", nil, def("A", stop())), program("A", []api.Expr{}, api.Def{Name: "A", Params: []string{}, Body: stop()}), true)
	p := program("A", []api.Expr{}, def("A", api.Body{Kind: api.EndStop, Stmts: []api.Stmt{}, Args: []api.Expr{}, Parts: []api.Body{}, Arms: []api.Arm{}}))
	p.Defs[0].Params = []string{}
	isText(t, p, "actor A() { stop }\nmain A()\n")
}

// P12.2: what lies behind a list's length is no part of it, though both lists begin at one place.
func TestSameBehindLength(t *testing.T) {
	args := []api.Expr{self(), number(1), number(2)}
	isSame(t, reckoned(args...), reckoned(args[:2]...), false)
	isSame(t, reckoned(args[:2]...), reckoned(self(), number(1)), true)
	isSame(t, reckoned(args[1:]...), reckoned(args[:2]...), false)
	if tree.Size(reckoned(args[:2]...)) != 4 || tree.Print(reckoned(args[:2]...)) != "actor A() { stop }\nmain A(self, 1)\n" {
		t.Error("behind the length")
	}
}

// P12.2: trees that may not be, and ones that are far too deep, are held against each other as any.
func TestSameOfAny(t *testing.T) {
	odd := func(n int) api.Program {
		return api.Program{Main: "?", Args: []api.Expr{{Kind: -1, N: n, Name: "", Args: []api.Expr{{}}}}}
	}
	isSame(t, odd(-5), odd(-5), true)
	isSame(t, odd(-5), odd(-6), false)
	chain := func(n int, last api.Expr) api.Program {
		for range n {
			last = tuple(last)
		}
		return reckoned(last)
	}
	for _, n := range []int{63, 64, 65, 66, 67, 1000, 1<<16 - 8} {
		if !tree.Same(chain(n, self()), chain(n, self())) || tree.Same(chain(n, self()), chain(n, number(0))) || tree.Same(chain(n, self()), chain(n+1, self())) {
			t.Errorf("%d levels", n)
		}
	}
}

// P12.2: held against the second telling.
func TestSamePlainly(t *testing.T) {
	r := row(8)
	for range 800 {
		p := r.program()
		q := p
		for range r.next(4) {
			q = r.change(q)
		}
		isSame(t, p, q, spell(p) == spell(q))
	}
}

// P12.3: unlike trees that may be have unlike texts.
func TestUnlikeTextsOfUnlike(t *testing.T) {
	r := row(9)
	seen := map[string]string{}
	unlike := 0
	for range 1000 {
		p := r.program()
		for range 6 {
			if tree.Good(p) {
				text, all := tree.Print(p), spell(p)
				if was, ok := seen[text]; ok && was != all {
					t.Fatalf("%s: %s and %s", text, was, all)
				}
				if _, ok := seen[text]; !ok {
					unlike++
				}
				seen[text] = all
			}
			p = r.change(p)
		}
	}
	if unlike < 1000 {
		t.Error(unlike)
	}
}

// P12.3: an After of what is not Late has no place in the text, so there is none.
func TestUnlikeTextsOfAfter(t *testing.T) {
	b := receive(arm(anything(), stop()))
	b.After = 5
	isBad(t, "After of what is not Late", ended(b))
}
