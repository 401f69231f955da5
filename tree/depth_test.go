package tree_test

import (
	"fmt"
	"math"
	"testing"

	"postbag/api"
	"postbag/tree"
)

// deepExpr is n expressions, one in the other, each the last one of some.
func deepExpr(n int) api.Expr {
	e := self()
	for i := 1; i < n; i++ {
		if i%2 == 0 {
			e = tuple(number(i), e)
		} else {
			e = reckon(number(i), "+", e)
		}
	}
	return e
}

func deepPattern(n int) api.Pattern {
	p := anything()
	for range n - 1 {
		p = isTuple(anything(), p)
	}
	return p
}

// deepBody is n bodies, each in one of the places that a body has for others.
func deepBody(n int) api.Body {
	b := stop()
	for i := 1; i < n; i++ {
		switch i % 4 {
		case 0:
			b = either(self(), b, stop())
		case 1:
			b = either(self(), stop(), b)
		case 2:
			b = late(1, b)
		case 3:
			b = receive(arm(anything(), stop()), arm(anything(), b))
		}
	}
	return b
}

// nested is programs of that Depth, which stands in each place in turn.
func nested(n int) []api.Program {
	l := []api.Program{reckoned(deepExpr(n)), reckoned(number(1), deepExpr(n), self())}
	if n > 1 {
		e, less := deepExpr(n-1), deepBody(n-1)
		l = append(l, stated(let("x", e)), stated(spawn("x", "A", self(), e)), stated(send(self(), e)), stated(out(e)), ended(become("A", e)),
			ended(stop(out(self()), out(e), out(self()))), ended(either(e, stop(), stop())), ended(either(self(), less, stop())),
			ended(either(self(), stop(), less)), ended(late(1, less)), ended(receive(arm(deepPattern(n-1), stop()))), ended(receive(arm(anything(), stop(), e))),
			ended(receive(arm(anything(), less))), ended(receive(arm(anything(), stop()), arm(anything(), less))), ended(deepBody(n)),
			program("A", nil, def("A", stop()), def("B", deepBody(n)), def("C", stop())))
	}
	return l
}

// P12.2: Depth is that of the deepest part, wherever it stands, and at most one above the limit.
func TestDepth(t *testing.T) {
	for _, n := range []int{1, 2, 3, 4, 7, 31, 63, 64, 65, 66, 67, 100, 1000} {
		for i, p := range nested(n) {
			if d := tree.Depth(p); d != min(n, 65) {
				t.Errorf("%d levels in place %d: %d", n, i, d)
			}
		}
	}
}

// P12.1: a tree that is deeper than 64 levels may not be.
func TestGoodDepth(t *testing.T) {
	for _, n := range []int{1, 2, 62, 63, 64, 65, 66, 130, 1 << 15} {
		for i, p := range nested(n) {
			if tree.Good(p) != (n <= 64) {
				t.Errorf("%d levels in place %d", n, i)
			}
		}
	}
}

// P12.2: Depth of what has nothing, and of trees that may not be.
func TestDepthOfAny(t *testing.T) {
	odd := api.Expr{Kind: -7, N: -1, Name: "?", Args: []api.Expr{{Kind: 99}, {Args: []api.Expr{{}}}}}
	for i, c := range []struct {
		p           api.Program
		depth, size int
	}{
		{api.Program{}, 0, 0},
		{api.Program{Main: "A", At: 7}, 0, 0},
		{api.Program{Defs: []api.Def{{}}}, 1, 2},
		{api.Program{Defs: []api.Def{{Params: []string{"", "?", "a"}}, {}}}, 1, 7},
		{api.Program{Args: []api.Expr{{}}}, 1, 1},
		{api.Program{Args: []api.Expr{odd, {}}}, 3, 5},
		{ended(api.Body{Args: []api.Expr{odd}}), 4, 6},
		{ended(api.Body{Stmts: []api.Stmt{{}, {Kind: -1, Args: []api.Expr{odd}}}}), 4, 8},
		{ended(api.Body{Kind: api.EndStop, Parts: []api.Body{{Parts: []api.Body{{}}}}}), 3, 4},
		{ended(api.Body{Kind: api.EndStop, Arms: []api.Arm{{}}}), 2, 4},
		{ended(api.Body{Arms: []api.Arm{{Pattern: api.Pattern{Args: []api.Pattern{{}, {Args: []api.Pattern{{}}}}}, Guard: []api.Expr{{}, {}, odd}}}}), 4, 13},
		{reckoned(api.Expr{Kind: api.ExprInt, Args: []api.Expr{self(), self()}}), 2, 5},
	} {
		if d, s := tree.Depth(c.p), tree.Size(c.p); d != c.depth || s != c.size {
			t.Errorf("%d: %d and %d, not %d and %d", i, d, s, c.depth, c.size)
		}
	}
}

// P12.2: what stands below the level 65 counts neither for Depth nor for Size.
func TestLevelsThatCount(t *testing.T) {
	chain := func(n int) api.Expr {
		e := self()
		for range n - 1 {
			e = tuple(e)
		}
		return e
	}
	for _, n := range []int{1, 64, 65, 66, 67, 1000, 1 << 15} {
		p := api.Program{Args: []api.Expr{chain(n)}}
		if d, s := tree.Depth(p), tree.Size(p); d != min(n, 65) || s != min(n, 65) {
			t.Errorf("%d expressions: %d, %d", n, d, s)
		}
		pattern := anything()
		body := stop()
		for range n - 1 {
			pattern = isTuple(pattern)
			body = late(0, body)
		}
		// The Def and its body, and the body of the Arm, stand beside the pattern.
		if p := matched(pattern); tree.Depth(p) != min(n+1, 65) || tree.Size(p) != min(n, 64)+3 {
			t.Errorf("%d patterns: %d, %d", n, tree.Depth(p), tree.Size(p))
		}
		if p := ended(body); tree.Depth(p) != min(n, 65) || tree.Size(p) != min(n, 65)+1 {
			t.Errorf("%d bodies: %d, %d", n, tree.Depth(p), tree.Size(p))
		}
	}
	// At the level 65 a body's own statements count, what stands in them does not.
	for n, want := range map[int]int{63: 63 + 1 + 2 + 2, 64: 64 + 1 + 2 + 2, 65: 65 + 1 + 2, 66: 65 + 1} {
		body := stop(out(self()), out(self()))
		for range n - 1 {
			body = late(0, body)
		}
		if s := tree.Size(ended(body)); s != want {
			t.Errorf("statements at %d: %d, not %d", n, s, want)
		}
	}
}

// sized is a program of that Size, 4 at least.
func sized(n int) api.Program {
	b := stop()
	for range (n - 2) / 2 {
		b.Stmts = append(b.Stmts, out(self()))
	}
	d := def("A", b)
	if n%2 == 1 {
		d.Params = []string{"x"}
	}
	return program("A", nil, d)
}

// P12.1, P12.2: up to 4096 parts are counted, and may be.
func TestSize(t *testing.T) {
	for _, n := range []int{4, 5, 100, 4095, 4096, 4097, 4098, 5001, 1 << 16} {
		p := sized(n)
		if s := tree.Size(p); s != min(n, 4097) {
			t.Errorf("%d parts: %d", n, s)
		}
		if tree.Good(p) != (n <= 4096) || (tree.Print(p) != "") != (n <= 4096) {
			t.Errorf("%d parts", n)
		}
	}
}

// P12.2: each expression, pattern, statement, body, parameter and Def counts once.
func TestSizeOfEach(t *testing.T) {
	least := tree.Size(ended(stop()))
	if least != 2 {
		t.Fatal(least)
	}
	for i, c := range []struct {
		p    api.Program
		more int
	}{
		{reckoned(self()), 1}, {reckoned(tuple(self(), number(1))), 3}, {reckoned(reckon(self(), "+", tuple(self()))), 4},
		{matched(anything()), 2}, {matched(isTuple(anything(), isNumber(2))), 4},
		{ended(receive(arm(anything(), stop()), arm(anything(), stop(), self()))), 5},
		{stated(out(self())), 2}, {stated(spawn("x", "A")), 1}, {stated(spawn("x", "A", self(), self())), 3}, {stated(send(self(), self())), 3},
		{ended(either(self(), stop(), stop())), 3}, {ended(late(9, stop())), 1}, {ended(become("A", self(), self())), 2},
		{program("A", nil, def("A", stop(), "a", "b")), 2}, {program("A", nil, def("A", stop()), def("B", stop(), "x")), 3},
	} {
		if s := tree.Size(c.p); s != least+c.more {
			t.Errorf("%d: %d, not %d", i, s, least+c.more)
		}
	}
}

// P12.1, P12.2: trees that share their parts are far greater than their memory; they are asked no further than need be.
func TestSharedParts(t *testing.T) {
	e, p, b := self(), anything(), stop()
	for range 80 {
		e, p, b = tuple(e, e, e, e), isTuple(p, p, p, p), either(self(), b, b)
	}
	for i, q := range []api.Program{reckoned(e), matched(p), ended(b)} {
		if tree.Depth(q) != 65 || tree.Size(q) != 4097 || tree.Good(q) || tree.Print(q) != "" {
			t.Errorf("place %d: %d, %d", i, tree.Depth(q), tree.Size(q))
		}
		if !tree.Same(q, q) {
			t.Errorf("place %d: it is not itself", i)
		}
	}
	// The same with fewer levels.
	e = self()
	for range 30 {
		e = tuple(e, e, e, e)
	}
	if q := reckoned(e); tree.Size(q) != 4097 || tree.Good(q) || tree.Print(q) != "" {
		t.Error("wide")
	}
}

// P12.2: held against the second telling, of trees of any shape.
func TestDepthAndSizePlainly(t *testing.T) {
	r := row(1)
	for range 1000 {
		p := r.program()
		for range r.next(3) {
			p = r.change(p)
		}
		depth, size := measured(p)
		if d, s := tree.Depth(p), tree.Size(p); d != depth || s != size {
			t.Fatalf("%d, %d, not %d, %d: %s", d, s, depth, size, spell(p))
		}
	}
	for _, n := range []int{math.MaxInt8, 300} {
		for i, p := range nested(n) {
			if depth, size := measured(p); tree.Depth(p) != depth || tree.Size(p) != size {
				t.Error(fmt.Sprint(n, " levels in place ", i))
			}
		}
	}
}
