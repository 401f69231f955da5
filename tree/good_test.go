package tree_test

import (
	"fmt"
	"math"
	"testing"

	"postbag/api"
	"postbag/tree"
)

// notNames are texts that are no names, ones with a letter ahead of them among them.
var notNames = []string{"", "_", "self", "main", "1", "1a", "a b", "a?", "'a", "é", letters(33)}

// P12.1: a tree of nothing may not be.
func TestGoodOfNothing(t *testing.T) {
	isBad(t, "nothing", api.Program{})
	isBad(t, "no Defs", program("A", nil))
	isBad(t, "no Main", api.Program{Defs: []api.Def{def("A", stop())}})
	isBad(t, "an empty Def", program("A", nil, api.Def{}))
	isBad(t, "a Def without a body", program("A", nil, def("A", api.Body{})))
}

// P12.1: 1 to 64 Defs, at most 8 Params, and at most 8 Args of what makes an actor.
func TestGoodNumbersOfThem(t *testing.T) {
	for _, n := range []int{0, 1, 2, 63, 64, 65, 1000} {
		p := program("A", nil)
		for i := range n {
			p.Defs = append(p.Defs, def(fmt.Sprint("A", i), stop()))
		}
		if tree.Good(p) != (1 <= n && n <= 64) {
			t.Errorf("%d Defs", n)
		}
	}
	for n := range 20 {
		params := make([]string, n)
		args := make([]api.Expr, n)
		for i := range n {
			params[i], args[i] = fmt.Sprint("p", i), number(i)
		}
		if tree.Good(program("A", nil, def("A", stop(), params...))) != (n <= 8) {
			t.Errorf("%d Params", n)
		}
		for i, p := range []api.Program{reckoned(args...), ended(become("A", args...)), stated(spawn("x", "A", args...))} {
			if tree.Good(p) != (n <= 8) {
				t.Errorf("%d Args of actor %d", n, i)
			}
		}
		for i, b := range []api.Body{stop(), receive(arm(anything(), stop())), either(self(), stop(), stop()), late(1, stop())} {
			want := len(b.Args)
			b.Args = args
			if tree.Good(ended(b)) != (n == want) {
				t.Errorf("%d Args of end %d", n, i)
			}
		}
	}
}

// P12.1: whatever is named has a name.
func TestGoodNames(t *testing.T) {
	named := func(name string) []api.Program {
		return []api.Program{
			program(name, nil, def("A", stop())), program("A", nil, def(name, stop())), program("A", nil, def("A", stop(), name)),
			program("A", nil, def("A", stop(), "a", "b", name)), reckoned(variable(name)), reckoned(atom(name)), matched(binds(name)),
			matched(isAtom(name)), stated(let(name, self())), stated(spawn(name, "A")), stated(spawn("x", name)), ended(become(name)),
		}
	}
	for _, name := range []string{"a", "Z", "_a", "__", "a1", "selfs", letters(32)} {
		for i, p := range named(name) {
			isGood(t, fmt.Sprintf("%q in place %d", name, i), p)
		}
	}
	for _, name := range notNames {
		for i, p := range named(name) {
			isBad(t, fmt.Sprintf("%q in place %d", name, i), p)
		}
	}
	// Names may be there more than once, and need not be known.
	isGood(t, "one name for all", program("A", nil, def("A", stop(let("a", variable("a")), let("a", variable("b"))), "a", "a"), def("A", become("B"))))
}

// P12.1: numbers of expressions are from 0 on, those of patterns from -MaxInt on, both up to MaxInt.
func TestGoodNumbers(t *testing.T) {
	for _, n := range []int{0, 1, 1 << 60, api.MaxInt - 1, api.MaxInt} {
		isGood(t, fmt.Sprint(n), reckoned(number(n)))
		isGood(t, fmt.Sprint("a pattern of ", n), matched(isNumber(n)))
		isGood(t, fmt.Sprint("a pattern of ", -n), matched(isNumber(-n)))
		isGood(t, fmt.Sprint("after ", n), ended(late(n, stop())))
	}
	for _, n := range []int{-1, -api.MaxInt, -api.MaxInt - 1, api.MaxInt + 1, math.MaxInt, math.MinInt} {
		isBad(t, fmt.Sprint(n), reckoned(number(n)))
		isBad(t, fmt.Sprint("after ", n), ended(late(n, stop())))
	}
	for _, n := range []int{-api.MaxInt - 1, api.MaxInt + 1, math.MaxInt, math.MinInt} {
		isBad(t, fmt.Sprint("a pattern of ", n), matched(isNumber(n)))
	}
}

// P12.1: a tuple has 1 to 4 parts, what reckons has two.
func TestGoodParts(t *testing.T) {
	for n := range 8 {
		args := make([]api.Expr, n)
		parts := make([]api.Pattern, n)
		for i := range n {
			args[i], parts[i] = number(i), isNumber(i)
		}
		if tree.Good(reckoned(tuple(args...))) != (1 <= n && n <= 4) {
			t.Errorf("a tuple of %d", n)
		}
		if tree.Good(matched(isTuple(parts...))) != (1 <= n && n <= 4) {
			t.Errorf("a pattern's tuple of %d", n)
		}
		if tree.Good(reckoned(api.Expr{Kind: api.ExprBin, Name: "+", Args: args})) != (n == 2) {
			t.Errorf("a sum of %d", n)
		}
		for kind, want := range []int{api.StmtLet: 1, api.StmtSend: 2, api.StmtOut: 1} {
			s := api.Stmt{Kind: kind, Args: args}
			if kind == api.StmtLet {
				s.Name = "x"
			}
			if tree.Good(stated(s)) != (want > 0 && n == want) {
				t.Errorf("a statement of kind %d with %d Args", kind, n)
			}
		}
	}
}

// P12.1: the signs of what reckons are five.
func TestGoodSigns(t *testing.T) {
	for _, sign := range []string{"+", "-", "*", "<", "=="} {
		isGood(t, sign, reckoned(reckon(self(), sign, number(1))))
	}
	for _, sign := range []string{"", "=", "===", "/", ">", "<=", "!=", "+ ", " +", "++", "a", "(", "\x00"} {
		isBad(t, fmt.Sprintf("%q", sign), reckoned(reckon(self(), sign, number(1))))
	}
}

// P12.1: the kinds are those of api.
func TestGoodKinds(t *testing.T) {
	for _, kind := range []int{math.MinInt, -1, 0, 5, 6, 7, 8, 1 << 32, math.MaxInt} {
		// What a kind that there is not could have is thrown at it, too.
		for _, e := range []api.Expr{{}, {N: 1}, {Name: "a"}, {Args: []api.Expr{self()}}, {Name: "+", Args: []api.Expr{self(), self()}}} {
			if e.Kind = kind; kind < 1 || kind > 6 {
				isBad(t, fmt.Sprint("an expression of kind ", kind), reckoned(e))
			}
		}
		for _, p := range []api.Pattern{{}, {N: 1}, {Name: "a"}, {Args: []api.Pattern{anything()}}} {
			if p.Kind = kind; kind < 1 || kind > 5 {
				isBad(t, fmt.Sprint("a pattern of kind ", kind), matched(p))
			}
		}
		for _, s := range []api.Stmt{{}, out(self()), send(self(), self()), let("x", self()), spawn("x", "A")} {
			s.Kind = kind
			isBad(t, fmt.Sprint("a statement of kind ", kind), stated(s))
		}
		for _, b := range []api.Body{stop(), become("A"), either(self(), stop(), stop()), receive(arm(anything(), stop())), late(1, stop())} {
			b.Kind = kind
			isBad(t, fmt.Sprint("an end of kind ", kind), ended(b))
		}
	}
}

// P12.1: an expression, a pattern and a statement have nothing that their kind does not have.
func TestGoodHasNoMore(t *testing.T) {
	one := []api.Expr{self()}
	for i, e := range []api.Expr{number(1), atom("a"), variable("a"), self(), tuple(self()), reckon(self(), "+", self())} {
		isGood(t, fmt.Sprint("expression ", i), reckoned(e))
		n, name, args := e, e, e
		n.N, name.Name, args.Args = 1, "a", one
		for k, x := range []api.Expr{n, name, args} {
			has := [...]string{"N", "Name", "Name", "", "Args", ""}[i] == [...]string{"N", "Name", "Args"}[k]
			if tree.Good(reckoned(x)) != has {
				t.Errorf("expression %d, field %d", i, k)
			}
		}
	}
	for i, p := range []api.Pattern{anything(), isNumber(1), isAtom("a"), binds("a"), isTuple(anything())} {
		isGood(t, fmt.Sprint("pattern ", i), matched(p))
		n, name, args := p, p, p
		n.N, name.Name, args.Args = 1, "a", []api.Pattern{anything()}
		for k, x := range []api.Pattern{n, name, args} {
			has := [...]string{"", "N", "Name", "Name", "Args"}[i] == [...]string{"N", "Name", "Args"}[k]
			if tree.Good(matched(x)) != has {
				t.Errorf("pattern %d, field %d", i, k)
			}
		}
	}
	for i, s := range []api.Stmt{let("a", self()), spawn("a", "A", self()), send(self(), self()), out(self())} {
		isGood(t, fmt.Sprint("statement ", i), stated(s))
		name, actor := s, s
		name.Name, actor.Actor = "b", "B"
		if tree.Good(stated(name)) != (i < 2) || tree.Good(stated(actor)) != (i == 1) {
			t.Errorf("statement %d", i)
		}
	}
}

// P12.1: nor has an end.
func TestGoodEndHasNoMore(t *testing.T) {
	arms := []api.Arm{arm(anything(), stop())}
	ends := map[string]api.Body{"become": become("A"), "stop": stop(), "if": either(self(), stop(), stop()),
		"receive": receive(arms...), "late": late(3, stop(), arms...)}
	for what, b := range ends {
		isGood(t, what, ended(b))
	}
	actor := func(b *api.Body) { b.Actor = "B" }
	args := func(n int) func(b *api.Body) {
		return func(b *api.Body) { b.Args = make([]api.Expr, n); fill(b.Args, self()) }
	}
	parts := func(n int) func(b *api.Body) {
		return func(b *api.Body) { b.Parts = make([]api.Body, n); fill(b.Parts, stop()) }
	}
	armed := func(b *api.Body) { b.Arms = arms }
	after := func(b *api.Body) { b.After = 1 }
	turn := func(b *api.Body) { b.Late = !b.Late }
	for what, changes := range map[string][]func(b *api.Body){
		"become":  {parts(1), parts(2), armed, after, turn},
		"stop":    {actor, args(1), parts(1), parts(2), armed, after, turn},
		"if":      {actor, args(0), args(2), parts(0), parts(1), parts(3), armed, after, turn},
		"receive": {actor, args(1), parts(1), parts(2), after, turn},
		"late":    {actor, args(1), parts(0), parts(2), turn},
	} {
		for i, change := range changes {
			b := ends[what]
			change(&b)
			isBad(t, fmt.Sprint(what, ", change ", i), ended(b))
		}
	}
}

func fill[T any](l []T, x T) {
	for i := range l {
		l[i] = x
	}
}

// P12.1: what receives has an Arm at least, or is Late.
func TestGoodReceive(t *testing.T) {
	isBad(t, "no Arms", ended(receive()))
	isGood(t, "no Arms, but Late", ended(late(0, stop())))
	isGood(t, "an Arm", ended(receive(arm(anything(), stop()))))
	isGood(t, "an Arm, and Late", ended(late(0, stop(), arm(anything(), stop()))))
	isGood(t, "Arms that are alike", ended(receive(arm(anything(), stop()), arm(anything(), stop()), arm(anything(), stop()))))
}

// P12.1: a Guard is none or one expression.
func TestGoodGuard(t *testing.T) {
	for n := range 4 {
		guard := make([]api.Expr, n)
		fill(guard, self())
		p := ended(receive(arm(anything(), stop()), arm(anything(), stop(), guard...)))
		if tree.Good(p) != (n < 2) {
			t.Errorf("a Guard of %d", n)
		}
	}
	isBad(t, "a Guard that may not be", ended(receive(arm(anything(), stop(), number(-1)))))
}

// P12.1: the places of parts count nowhere.
func TestGoodWhateverAt(t *testing.T) {
	for _, at := range []int{-1, 1, math.MinInt, math.MaxInt} {
		e, p, s, b, d := self(), anything(), out(self()), stop(), def("A", stop())
		e.At, p.At, s.At, b.At, d.At = at, at, at, at, at
		for i, q := range []api.Program{reckoned(e), matched(p), stated(s), ended(b), program("A", nil, d)} {
			q.At = at
			isGood(t, fmt.Sprint("place ", i), q)
		}
	}
}

// P12.1: what may not be may not be wherever it stands.
func TestGoodWherever(t *testing.T) {
	for i, e := range []api.Expr{self(), {}} {
		b := become("A", e)
		for k, p := range []api.Program{reckoned(self(), e), reckoned(tuple(self(), tuple(e))), reckoned(reckon(e, "+", self())), reckoned(reckon(self(), "+", e)),
			stated(let("x", e)), stated(spawn("x", "A", self(), e)), stated(send(e, self())), stated(send(self(), e)), stated(out(e)),
			ended(b), ended(either(e, stop(), stop())), ended(either(self(), b, stop())), ended(either(self(), stop(), b)),
			ended(receive(arm(anything(), stop(), e))), ended(receive(arm(anything(), b))), ended(receive(arm(anything(), stop()), arm(anything(), b))),
			ended(late(1, b)), ended(late(1, stop(), arm(anything(), b))), program("A", nil, def("A", stop()), def("B", b))} {
			if tree.Good(p) != (i == 0) {
				t.Errorf("expression %d in place %d", i, k)
			}
		}
	}
	for i, x := range []api.Pattern{anything(), {}} {
		for k, p := range []api.Program{matched(x), matched(isTuple(x)), matched(isTuple(anything(), isTuple(anything(), x))),
			ended(late(1, stop(), arm(x, stop()))), ended(receive(arm(anything(), stop()), arm(x, stop())))} {
			if tree.Good(p) != (i == 0) {
				t.Errorf("pattern %d in place %d", i, k)
			}
		}
	}
}
