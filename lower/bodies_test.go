package lower_test

import (
	"fmt"
	"slices"
	"testing"

	"postbag/api"
	"postbag/bench"
	"postbag/compile"
	"postbag/image"
	"postbag/items"
	"postbag/machine"
	"postbag/order"
)

// P25.2: statements and ends, each by itself.
func TestBodies(t *testing.T) {
	plays(t, 21, 6, []scene{
		{name: "the chapter's", src: actor("out 1 + 2 * 3; stop"), told: "7"},
		{name: "rounds", src: "actor A(n) { out n; if n < 2 { become A(n + 1) } else { stop } } main A(0)", told: "0 1 2"},
		{name: "let", src: actor("let x = 1; let y = {x, 'a}; let z = y; out {z, y, x}; stop"), told: "{{1,a0},{1,a0},1}"},
		{name: "self", src: actor("out self; let x = spawn B(self); stop } actor B(y) { out {y, self}; stop"), told: "p0 {p0,p1}"},
		{name: "self in main", src: "actor A(x, y) { out x; out y; stop } main A({self, 1}, self)", told: "{p0,1} p0"},
		{name: "main's arguments", src: "actor B() { stop } actor A(a, b, c, d, e, f, g, h) { out {a, b, c, d}; out {e, f, g, h}; stop } main A(1, 'b, {3, {'a}}, 4 - 5, self, 2 < 3, {6}, 7 == 7)", told: "{1,a1,{3,{a0}},-1} {p0,1,{6},1}"},
		{name: "a name twice", src: actor("if 1 { let x = 1; out x; if 0 { let y = 2; stop } else { let y = 3; out {x, y}; stop } } else { let x = 4; out x; stop }"), told: "1 {1,3}"},
		{name: "a tuple twice", src: "actor A(x) { let y = {x, x}; let z = {y, y, x}; out z; out z; become B(z, y, z) } actor B(a, b, c) { out {a, b}; out c; stop } main A({1, {2}})",
			told: "{{{1,{2}},{1,{2}}},{{1,{2}},{1,{2}}},{1,{2}}} {{{1,{2}},{1,{2}}},{{1,{2}},{1,{2}}},{1,{2}}} {{{{1,{2}},{1,{2}}},{{1,{2}},{1,{2}}},{1,{2}}},{{1,{2}},{1,{2}}}} {{{1,{2}},{1,{2}}},{{1,{2}},{1,{2}}},{1,{2}}}"},
	})
}

// P25.2: if goes on with its first part for integers other than 0 alone.
func TestIf(t *testing.T) {
	var l []scene
	for _, x := range []struct {
		e     string
		holds bool
	}{
		{"0", false}, {"1", true}, {"2", true}, {"3", true}, {"0 - 1", true}, {"4", true}, {"2305843009213693951", true}, {"0 - 2305843009213693951 - 1", true},
		{"2305843009213693951 + 2305843009213693951 + 2", false}, {"1073741824 * 4294967296", false}, {"1073741824 * 2147483648", true},
		{"'a", false}, {"'b", false}, {"self", false}, {"{1}", false}, {"{1, 2}", false}, {"b", false}, {"1 < 2", true}, {"2 < 1", false}, {"'a == 'a", true}, {"'a == 'b", false},
		{"{1} == {1}", false}, {"self == self", true}, {"self == b", false}, {"b == b", true},
	} {
		told := "0"
		if x.holds {
			told = "1"
		}
		l = append(l,
			scene{name: x.e, src: "actor A() { let b = spawn B(); let a = 'b; if " + x.e + " { out 1; stop } else { out 0; stop } } actor B() { let a = 'a; stop } main A()", told: told},
			scene{name: x.e + ", a variable", src: "actor A() { let b = spawn B(); let x = " + x.e + "; if x { out 1; stop } else { out 0; stop } } actor B() { let a = 'a; stop } main A()", told: told},
			scene{name: x.e + ", a guard", src: "actor A() { let b = spawn B(); send self, " + x.e + "; receive { x when x { out 1; stop } y { out 0; stop } } } actor B() { let a = 'a; stop } main A()", told: told})
	}
	plays(t, 22, 1, l)
}

// P25.2: become: fewer arguments than variables in scope, as many, and more, which hang on each other's old values.
func TestBecome(t *testing.T) {
	plays(t, 23, 4, []scene{
		{name: "fewer", src: "actor A(a, b, c) { let d = {a, b, c}; let e = c; become B(e, d) } actor B(x, y) { out {x, y}; become C() } actor C() { let z = 5; out z; stop } main A(1, 2, 3)", told: "{3,{1,2,3}} 5"},
		{name: "as many, round", src: "actor A(n, a, b, c) { out {a, b, c}; if n { become A(n - 1, b, c, a) } else { stop } } main A(3, 1, 2, 3)", told: "{1,2,3} {2,3,1} {3,1,2} {1,2,3}"},
		{name: "as many, turned", src: "actor A(a, b, c, d) { out {a, b, c, d}; if a < d { become A(d, c, b, a) } else { stop } } main A(1, 2, 3, 4)", told: "{1,2,3,4} {4,3,2,1}"},
		{name: "sums of each other", src: "actor A(a, b) { out a; if a < 60 { become A(b, a + b) } else { out {b}; stop } } main A(1, 2)", told: "1 2 3 5 8 13 21 34 55 89 {144}"},
		{name: "more", src: "actor A() { become B(1, 2, 3, 4, 5, 6, 7, 8) } actor B(a, b, c, d, e, f, g, h) { out {a, b, c, d}; out {e, f, g, h}; become B2(h, g, f, e, d, c, b, a) } actor B2(a, b, c, d, e, f, g, h) { out {a, b, c, d}; out {e, f, g, h}; stop } main A()", told: "{1,2,3,4} {5,6,7,8} {8,7,6,5} {4,3,2,1}"},
		{name: "more than were in scope", src: "actor A(x) { become B({x}, x, {x, x}, x + 1, x * x) } actor B(a, b, c, d, e) { out {a, b, c}; out {d, e}; stop } main A(7)", told: "{{7},7,{7,7}} {8,49}"},
		{name: "itself", src: "actor A(a, b, c) { if a < 2 { become A(a + 1, b, c) } else { out {b, c}; stop } } main A(0, {1, {2}}, 'x)", told: "{{1,{2}},a0}"},
	})
}

// P25.2: an actor becomes as often as Budget says until another one of its hart runs.
func TestBudget(t *testing.T) {
	src := "actor A() { let b = spawn B(0); let c = spawn B(0); stop } actor B(n) { out {self, n}; if n < 6 { become B(n + 1) } else { stop } } main A()"
	for budget := 1; budget < 10; budget++ {
		c := roomy()
		c.Budget = budget
		var want []string
		for first := 0; first < 7; first += budget {
			for _, a := range []int{1, 2} {
				for n := first; n < min(first+budget, 7); n++ {
					want = append(want, fmt.Sprintf("{p%d,%d}", a, n))
				}
			}
		}
		r := bench.Row(24)
		i := compiled(t, src, c)
		for _, s := range bench.Scripts(&r, 4) {
			w := begun(t, i)
			if !w.plays(s, most) || !slices.Equal(w.outs, want) || w.full {
				w.Fatalf("%d: %s", budget, w.told())
			}
		}
	}
}

// P25.2: actors are made with no argument and with as many as may be, each a copy in the new heap.
func TestSpawn(t *testing.T) {
	wide := "actor A(x) { let p = spawn B(1, x, {x, x}, {{x}}, 'a, self, x == x, {1, {2, {3, {4}}}}); stop } actor B(a, b, c, d, e, f, g, h) { out {a, b, c, d}; out {e, f, g, h}; stop } main A({5})"
	plays(t, 25, 4, []scene{
		{name: "no argument", src: actor("let b = spawn B(); stop } actor B() { out self; stop"), told: "p1"},
		{name: "all of them", src: wide, told: "{1,{5},{{5},{5}},{{{5}}}} {a0,p0,0,{1,{2,{3,{4}}}}}"},
		{name: "one of an own name", src: actor("let a = spawn B(1); let b = spawn B(2); send a, b; send b, a; stop } actor B(n) { receive { x { if n == 1 { send x, 5; stop } else { receive { y { out {n, x, y}; stop } } } } }"), told: "{2,p1,5}"},
		{name: "of itself", src: "actor A(n) { if n < 4 { let a = spawn A(n + 1); stop } else { out {n, self}; stop } } main A(0)", told: "{4,p4}"},
		{name: "what is made later", src: "actor A(x) { let y = {x}; let p = spawn B({y, y}, y); let z = {p, y}; out z; send p, z; stop } actor B(a, b) { receive { m { out {a, b, m}; stop } } } main A(3)", told: "{p1,{3}} {{{3},{3}},{3},{p1,{3}}}"},
		{name: "a chain", src: "actor A() { let a = spawn B(self, 5); receive { x { out x; stop } } } actor B(p, n) { if n { let c = spawn B(self, n - 1); receive { x { send p, {n, x}; stop } } } else { send p, 'end; stop } } main A()", told: "{5,{4,{3,{2,{1,a0}}}}}"},
	})
}

// P25.2: messages go to actors alone, to oneself too; those to one that has stopped are received by none.
func TestSend(t *testing.T) {
	plays(t, 26, 4, []scene{
		{name: "to what is no actor", src: actor("send 1, 2; send 'a, {3}; send {self}, 4; send 0, 5; send 3, 6; send self + 1, 7; send self, 8; receive { x { out x; stop } }"), told: "8"},
		{name: "to itself", src: actor("send self, {1, {2}}; send self, self; receive { x { receive { y { out {x, y}; stop } } } }"), told: "{{1,{2}},p0}"},
		{name: "the doc's", src: actor("send self, 5; send self, 6; receive { x when 5 < x { out x; stop } }"), told: "6"},
		{name: "to one that stopped", src: "actor A() { let b = spawn B(self); receive { 'gone { send b, {1, 2}; send b, b; out 'sent; stop } } } actor B(p) { send p, 'gone; stop } main A()", told: "a1"},
		{name: "in order", src: "actor A() { let q = spawn B(self, 0); receive { a { receive { b { receive { c { out {a, b, c}; stop } } } } } } } actor B(p, n) { if n < 3 { send p, {n}; become B(p, n + 1) } else { stop } } main A()", told: "{{0},{1},{2}}"},
		{name: "there and back", src: "actor A() { let b = spawn B(); become C(b, 0) } actor C(b, n) { if n < 6 { send b, {self, n}; receive { {'re, x} { out x; become C(b, n + 1) } } } else { send b, 'end; stop } } actor B() { receive { {p, n} { send p, {'re, n * n}; become B() } 'end { stop } } } main A()", told: "0 1 4 9 16 25"},
	})
}

// P25.2: whoever sees that a new actor runs sees all that it was given: by the rules of program order, what its maker stored to its record stands ahead of its state.
func TestBeginByRules(t *testing.T) {
	src := "actor A(x) { let p = spawn B(x, {x}, {1, 2}); stop } actor B(a, b, c) { out {a, b, c}; stop } main A({5})"
	i := compiled(t, src, roomy())
	w := begun(t, i)
	if !w.plays(bench.Script{Row: 3}, most) {
		w.Fatalf("it goes on for too long")
	}
	l, _ := w.x.Trace()
	for a := range 2 {
		at, from := image.Actor(i.Layout, a), 0
		end := at + i.Layout.ActorSize
		begin := slices.IndexFunc(l[0], func(op api.Op) bool {
			return op.Store && op.Addr == at+8*image.WState && op.Stored == 1
		})
		for k, op := range l[0][:max(begin, 0)] {
			if op.Store && op.Addr >= at && op.Addr < end {
				from++
				if order.Rule(l[0], k, begin) == 0 {
					t.Errorf("actor %d: %+v may stand behind its state", a, op)
				}
			}
		}
		if from < 10 {
			t.Errorf("actor %d: %d stores ahead of its state", a, from)
		}
	}
}

// P25.2, by a machine in whose order of memory what was stored last performs first, while the new actor's hart looks: it begins with all that it was given.
func TestBeginInTheMidst(t *testing.T) {
	src := "actor A(x) { let p = spawn B(x, {x}, {1, {x, 2}}); let q = spawn B({x}, x, 7); stop } actor B(a, b, c) { out {a, b, c}; stop } main A({5})"
	c := roomy()
	c.Harts = 2
	i := compiled(t, src, c)
	for ahead := range 60 {
		w := begun(t, i)
		began := false
		w.watch = func(hart int, label string) { began = began || hart == 1 && label == "def.1" }
		for range most {
			did := false
			for hart := range 2 {
				for range 1 + hart*ahead/4 {
					did = newest(w, hart) || did
				}
			}
			if !did {
				break
			}
		}
		w.ended()
		if !began || w.told() != "{{5},{{5}},{1,{{5},2}}} {{{5}},{5},7}" && w.told() != "{{{5}},{5},7} {{5},{{5}},{1,{{5},2}}}" {
			w.Fatalf("%s", w.told())
		}
	}
}

// newest lets a hart issue, or, if it waits, perform what it issued last of what may.
func newest(w *telling, hart int) bool {
	c := machine.Choice{Hart: hart, Kind: machine.Issue}
	if w.x.Choose(c) == api.OK {
		w.saw(c)
		return true
	}
	for n := w.x.Open(hart) - 1; n >= 0; n-- {
		c := machine.Choice{Hart: hart, Kind: machine.Perform, N: n}
		if w.x.Choose(c) == api.OK {
			w.saw(c)
			return true
		}
	}
	return false
}

// P25.2: main lets go the 1 that GLive had at first, so that all harts stop when the first actor has; the first actor has the number 0.
func TestMain(t *testing.T) {
	for harts := 1; harts <= 8; harts++ {
		c := roomy()
		c.Harts = harts
		i := compiled(t, actor("out self; stop"), c)
		if at, ok := compile.At(i, "main"); !ok || at%4 != 0 {
			t.Fatal("main")
		}
		r := bench.Row(27)
		for _, s := range bench.Scripts(&r, 4) {
			w := begun(t, i)
			if !w.plays(s, most) || w.told() != "p0" || w.word(i.Layout.Globals+8*image.GNext) != 1 || w.word(i.Layout.Globals+8*image.GLive) != 0 {
				w.Fatalf("%s", w.told())
			}
			if state := w.word(image.Actor(i.Layout, 0) + 8*image.WState); state != 3 {
				w.Fatalf("the state is %d", state)
			}
			if n := w.has(0, items.Hart); n != 0 {
				w.Fatalf("hart 0 has %d", n)
			}
		}
	}
}
