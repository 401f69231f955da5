package model_test

import (
	"strings"
	"testing"

	"postbag/api"
	"postbag/model"
)

// after is the model of a program behind some moves: r, a, l, each with an actor's number.
func after(t *testing.T, p api.Program, moves string) *model.Model {
	t.Helper()
	m, e := model.New(p)
	if e != api.OK {
		t.Fatal(int(e))
	}
	for _, s := range strings.Fields(moves) {
		x := model.Move{Kind: strings.IndexByte("ral", s[0]), Actor: int(s[1] - '0')}
		if _, _, e := m.Do(x); e != api.OK {
			t.Fatalf("%s of %s: %d", s, moves, int(e))
		}
	}
	return m
}

func areAlike(t *testing.T, p api.Program, a, b string, want bool) {
	t.Helper()
	if x, y := after(t, p, a).Key(), after(t, p, b).Key(); (x == y) != want || x == "" || y == "" {
		t.Errorf("%q and %q: %q and %q, not %v", a, b, x, y, want)
	}
}

// P16.5: models that came there by other moves have one Key.
func TestKeyAlike(t *testing.T) {
	p := laid(t, "actor A() { let b = spawn B(1); let c = spawn B(2); send b, 5; send c, 6; stop } actor B(n) { let x = n; receive { y { become B(n) } after 1 { become B(n) } } } main A()")
	areAlike(t, p, "", "", true)
	areAlike(t, p, "r0 r0 r1 r2", "r0 r0 r2 r1", true)
	areAlike(t, p, "r0 r1 r0 r2", "r0 r0 r2 r1", true)
	areAlike(t, p, "r0 r0 r0 r1 a1", "r0 r1 r0 r0 a1", true)
	areAlike(t, p, "r0 r0 r0 a1 r0 a2", "r0 r0 r0 r0 a2 a1", true)
	areAlike(t, p, "r0 r0 r1 l1 r1", "r0 r0", true)
	areAlike(t, p, "r0 r0 r0 r0 r1 a1 r1 r1", "r0 r0 r0 r0 a1 r1 r1 r1", true)
	areAlike(t, p, "r0 r0 r0 r0 r0 r1 l1 r1", "r0 r0 r0 r0 r0", true)
	// Which of two messages is received first: what is next is the same, though it stands elsewhere, and so are the variables, though they were bound in another order.
	p = laid(t, "actor A() { let b = spawn B(); let c = spawn S(b, {1, 7}); let d = spawn S(b, {8, 2}); stop } actor S(to, x) { send to, x; stop } actor B() { receive { {1, x} { receive { {y, 2} { stop } } } {y, 2} { receive { {1, x} { stop } } } } } main A()")
	areAlike(t, p, "r0 r0 r0 r2 r3 a1 a1", "r0 r0 r0 r3 r2 a1 a1", false)
	areAlike(t, p, "r0 r0 r0 r2 r3 a1 r1 a1 r1", "r0 r0 r0 r3 r2 a1 r1 a1 r1", true)
	areAlike(t, p, "r0 r0 r0 r2 r3 a1 r1 a1", "r0 r0 r0 r3 r2 a1 r1 a1", false)
}

// isNextAlike holds Keys of two models against each other, of which nothing differs but what is next.
func isNextAlike(t *testing.T, one, other string, want bool) {
	t.Helper()
	p := laid(t, "actor A(x) { send self, 0; receive { 0 { "+one+" } after 0 { receive { 0 { "+other+" } } } } } actor B(x) { stop } main A(5)")
	areAlike(t, p, "r0 a0 r0", "r0 l0 a0 r0", want)
}

// P16.5: what is next is the same, wherever it stands.
func TestKeyNextAlike(t *testing.T) {
	for _, body := range []string{
		"stop", "out 1; stop", "let y = {x, 'a}; send self, y; become B(y)", "let y = spawn B(x * 2); if y == self { stop } else { out y; stop }",
		"receive { {1, y, 'a, _} when y < x { out y; stop } -3 { stop } after 4 { stop } }",
	} {
		isNextAlike(t, body, body, true)
	}
	p := laid(t, "actor A() { send self, 0; receive { 0 { let y = 1; let z = {2}; stop } after 0 { let z = {2}; receive { 0 { let y = 1; stop } } } } } main A()")
	areAlike(t, p, "r0 a0 r0 r0 r0", "r0 l0 r0 a0 r0 r0", true)
	p = laid(t, "actor A() { send self, 0; receive { 0 { let y = 1; let z = 2; stop } after 0 { let y = 2; receive { 0 { let z = 1; stop } } } } } main A()")
	areAlike(t, p, "r0 a0 r0 r0 r0", "r0 l0 r0 a0 r0 r0", false)
	// The same is next, and values are the same, but of another variable.
	p = laid(t, "actor A() { send self, 0; receive { 0 { let y = 1; stop } after 0 { let z = 1; receive { 0 { stop } } } } } main A()")
	areAlike(t, p, "r0 a0 r0 r0", "r0 l0 r0 a0 r0", false)
}

// P16.5: models that are unlike in one thing have unlike Keys.
func TestKeyUnlike(t *testing.T) {
	p := laid(t, "actor A() { let b = spawn B(1); let c = spawn B(2); send b, 5; send b, 6; send c, 5; stop } actor B(n) { receive { 5 { stop } x { out x; receive { after 0 { stop } } } after 0 { stop } } } main A()")
	all := []string{
		"", "r0", "r0 r0", "r0 r0 r0", "r0 r0 r0 r0", "r0 r0 r0 r0 r0", "r0 r0 r0 r0 r0 r0",
		"r0 l1", "r0 l1 r1", "r0 r0 l1", "r0 r0 l2", "r0 r0 l1 l2", "r0 r0 l1 r1",
		"r0 r0 r0 a1", "r0 r0 r0 r0 a1", "r0 r0 r0 r0 a1 a1", "r0 r0 r0 r0 a1 r1", "r0 r0 r0 r0 a1 a1 r1", "r0 r0 r0 r0 a1 a1 r1 r1",
		"r0 r0 r0 r0 r0 a2", "r0 r0 r0 r0 r0 a2 a1", "r0 r0 r0 r0 r0 l1", "r0 r0 r0 r0 r0 l1 r1",
	}
	for i, a := range all {
		for k, b := range all {
			areAlike(t, p, a, b, i == k)
		}
	}
	// Messages' order, values' kinds, and which variable has which value.
	p = laid(t, "actor A() { let b = spawn S(self, 1); let c = spawn S(self, {1}); receive { after 0 { stop } } } actor S(to, x) { send to, x; stop } main A()")
	areAlike(t, p, "r0 r0 r1 r2", "r0 r0 r2 r1", false)
	areAlike(t, p, "r0 r0 r1 r2 a0", "r0 r0 r2 r1 a0", false)
	areAlike(t, p, "r0 r0 r1 r2 a0", "r0 r0 r1 r2", false)
	areAlike(t, p, "r0 r0 r1 a0 r2", "r0 r0 r1 r2 a0", true)
	areAlike(t, p, "r0 r0 r1 r2 r1", "r0 r0 r1 r2 r2", false)
	p = laid(t, "actor A() { become B(1, 2) } actor B(x, y) { receive { after 0 { become B(y, x) } } } main A()")
	areAlike(t, p, "r0", "r0 l0 r0", false)
	areAlike(t, p, "r0", "r0 l0 r0 l0 r0", true)
	for _, two := range [][2]string{{"0", "'a"}, {"'a", "self"}, {"0", "self"}, {"{0}", "0"}, {"{0, 0}", "{0}"}, {"{{0}, 0}", "{0, {0}}"}, {"{0, 1}", "{1, 0}"}, {"1", "11"}, {"{1, 1}", "{11}"}, {"1", "0 - 1"}} {
		p = laid(t, "actor A() { send self, 0; receive { 0 { become B("+two[0]+") } after 0 { receive { 0 { become B("+two[1]+") } } } } } actor B(x) { out 'a; stop } main A()")
		areAlike(t, p, "r0 a0 r0 r0", "r0 l0 a0 r0 r0", false)
	}
	p = laid(t, "actor A() { out 1; out 1; out 1; stop } main A()")
	areAlike(t, p, "", "r0", false)
	areAlike(t, p, "r0", "r0 r0", false)
	areAlike(t, p, "r0 r0 r0", "r0 r0 r0 r0", false)
	// Which of two actors has stopped.
	p = laid(t, "actor A() { let b = spawn B(); let c = spawn B(); stop } actor B() { stop } main A()")
	areAlike(t, p, "r0 r0 r1", "r0 r0 r2", false)
	areAlike(t, p, "r0 r0 r1 r2", "r0 r0 r2 r1", true)
}

// P16.5: what was sent to one that has stopped makes no unlike model: neither how much it was, nor what, nor by whom, nor whether it was sent ahead of the stop.
func TestKeyStopped(t *testing.T) {
	p := laid(t, "actor A() { let b = spawn B(); let c = spawn S(b, 0); let d = spawn S(b, 0); stop } actor B() { receive { {_} { stop } after 0 { stop } } } actor S(b, n) { receive { after 0 { send b, n; become S(b, 0) } } } main A()")
	made, stop := "r0 r0 r0 ", "l1 r1 "
	for _, sent := range []string{stop + "l2 r2 r2", "l2 r2 r2 " + stop, "l2 r2 a1 r2 " + stop, "l2 " + stop + "r2 r2", stop + "l3 r3 r3", stop + "l2 r2 r2 l2 r2 r2 l3 r3 r3", "l2 r2 r2 l3 r3 r3 " + stop + "l2 r2 r2"} {
		areAlike(t, p, made+stop, made+sent, true)
		areAlike(t, p, made, made+sent, false)
	}
	areAlike(t, p, made, made+"l2 r2 r2", false)
	// Of two that sent unlike messages to it, and are alike then.
	p = laid(t, "actor A() { let b = spawn B(); send self, 0; receive { 0 { send b, 1; stop } after 0 { send b, {2}; receive { 0 { stop } } } } } actor B() { stop } main A()")
	areAlike(t, p, "r0 r0 r1 a0 r0 r0", "r0 r0 r1 l0 r0 a0 r0", true)
	areAlike(t, p, "r0 r0 a0 r0 r0", "r0 r0 l0 r0 a0 r0", false)
	areAlike(t, p, "r0 r0 a0 r0 r0 r1", "r0 r0 l0 r0 a0 r0 r1", true)
}

// P16.5: clones of one model of which in one alone an actor has stopped.
func TestCloneStopped(t *testing.T) {
	p := laid(t, "actor A() { let b = spawn B(); send b, 1; send b, 2; send b, 3; stop } actor B() { stop } main A()")
	m := after(t, p, "r0 r0 r0 a1")
	c := m.Clone()
	runs(t, m, 1, 1)
	d := m.Clone()
	for _, x := range []*model.Model{d, c, m} {
		runs(t, x, 0, 1)
	}
	stands(t, m, 1, model.None, "", "", "")
	stands(t, d, 1, model.None, "", "", "")
	stands(t, c, 1, model.Stop, "", "2 3", "1")
	runs(t, c, 1, 1)
	if c.Key() != m.Key() || d.Key() != m.Key() {
		t.Error(c.Key(), d.Key(), m.Key())
	}
}

// P16.5: bodies that differ in one thing alone.
func TestKeyNextUnlike(t *testing.T) {
	for _, two := range [][2]string{
		{"out 1; stop", "out 2; stop"}, {"out x; stop", "out 'x; stop"}, {"out x; stop", "out self; stop"}, {"out 1 + x; stop", "out 1 - x; stop"},
		{"out x < 1; stop", "out x == 1; stop"}, {"out 1 + 2 * x; stop", "out (1 + 2) * x; stop"}, {"send x, 1; stop", "send 1, x; stop"},
		{"out {1, {2}}; stop", "out {{1}, 2}; stop"}, {"out {1, 2}; stop", "out {12}; stop"}, {"out 1; out 2; stop", "out 2; out 1; stop"},
		{"out 1; stop", "let y = 1; stop"}, {"let y = 1; stop", "let z = 1; stop"}, {"let y = 1; out y; stop", "let y = 1; out x; stop"},
		{"let y = spawn A(1); stop", "let y = spawn B(1); stop"}, {"let y = spawn A(1); stop", "let z = spawn A(1); stop"},
		{"become A(x)", "become B(x)"}, {"become A(x)", "become A(1)"}, {"become A(1)", "stop"},
		{"if x { out 1; stop } else { stop }", "if x { stop } else { out 1; stop }"}, {"if x { stop } else { stop }", "if 1 { stop } else { stop }"},
		{"stop", "receive { _ { stop } }"}, {"receive { _ { stop } }", "receive { y { stop } }"}, {"receive { 1 { stop } }", "receive { 2 { stop } }"},
		{"receive { 1 { stop } }", "receive { -1 { stop } }"}, {"receive { 'a { stop } }", "receive { a { stop } }"}, {"receive { a { stop } }", "receive { b { stop } }"},
		{"receive { {a, b} { stop } }", "receive { {a, {b}} { stop } }"}, {"receive { {_, _} { stop } }", "receive { {_} { stop } }"},
		{"receive { a when a { stop } }", "receive { a { stop } }"}, {"receive { a when a { stop } }", "receive { a when x { stop } }"},
		{"receive { a { stop } 1 { stop } }", "receive { 1 { stop } a { stop } }"}, {"receive { a { stop } b { stop } }", "receive { a { stop } }"},
		{"receive { 1 { stop } 2 { out 1; stop } }", "receive { 1 { out 1; stop } 2 { stop } }"},
		{"receive { a { stop } after 1 { stop } }", "receive { a { stop } after 2 { stop } }"}, {"receive { a { stop } after 1 { stop } }", "receive { a { stop } }"},
		{"receive { a { stop } after 1 { stop } }", "receive { a { stop } after 1 { out 1; stop } }"},
	} {
		isNextAlike(t, two[0], two[1], false)
	}
}

// P16.5: Keys of a program are the same for each of its models.
func TestKeyAgain(t *testing.T) {
	for _, p := range programs(t) {
		a, _ := model.New(p)
		b, _ := model.New(p)
		for range 30 {
			if a.Key() != b.Key() || a.Key() != a.Clone().Key() {
				t.Fatal(a.Key(), b.Key())
			}
			l := a.Moves()
			if len(l) == 0 {
				break
			}
			a.Do(l[len(l)-1])
			b.Do(l[len(l)-1])
		}
	}
}

// P16.5: a clone goes on as its origin would; neither is changed by what the other one does.
func TestClone(t *testing.T) {
	m := begun(t, "actor A() { send self, 1; send self, 2; send self, 3; send self, 4; let x = 5; let y = 6; receive { z { out {x, y, z}; let w = z; receive { z2 { out {w, z2}; stop } } } } } main A()")
	runs(t, m, 0, 3)
	arrives(t, m, 0, 1)
	key := m.Key()
	c := m.Clone()
	d := c.Clone()
	if c.Key() != key || d.Key() != key {
		t.Error(c.Key(), d.Key(), key)
	}
	// All three put something behind the same lists.
	runs(t, m, 0, 1)
	runs(t, c, 0, 1)
	arrives(t, c, 0, 3)
	arrives(t, d, 0, 2)
	stands(t, m, 0, model.Silent, "5", "2 3 4", "1")
	stands(t, c, 0, model.Silent, "5", "", "1 2 3 4")
	stands(t, d, 0, model.Send, "p0 4", "", "1 2 3")
	runs(t, m, 0, 3)
	tells(t, m, 0, "{5,6,1}")
	stands(t, c, 0, model.Silent, "5", "", "1 2 3 4")
	e := m.Clone()
	arrives(t, m, 0, 3)
	stands(t, e, 0, model.Silent, "1", "2 3 4", "")
	runs(t, m, 0, 2)
	tells(t, m, 0, "{1,2}")
	runs(t, m, 0, 1)
	stands(t, e, 0, model.Silent, "1", "2 3 4", "")
	stands(t, d, 0, model.Send, "p0 4", "", "1 2 3")
	runs(t, d, 0, 1)
	stands(t, d, 0, model.Silent, "5", "4", "1 2 3")
	stands(t, m, 0, model.None, "", "", "")
}

// P16.5: clones of one model that bind, make and receive unlike things beside each other.
func TestCloneBeside(t *testing.T) {
	p := laid(t, "actor A() { let v = 0; receive { x { let y = {x}; let b = spawn B(y); out {x, y, b}; become A() } } } actor B(y) { out y; stop } actor C() { send self, 1; send self, 2; become A() } main C()")
	m := after(t, p, "r0 r0 r0 r0 a0")
	c := m.Clone()
	arrives(t, c, 0, 1)
	runs(t, c, 0, 3)
	runs(t, m, 0, 2)
	m2 := m.Clone()
	runs(t, m, 0, 1)
	runs(t, m2, 0, 1)
	tells(t, m, 0, "{1,{1},p1}")
	tells(t, c, 0, "{1,{1},p1}")
	runs(t, c, 0, 1)
	runs(t, c, 0, 4)
	tells(t, c, 0, "{2,{2},p2}")
	tells(t, m2, 0, "{1,{1},p1}")
	tells(t, c, 2, "{2}")
	tells(t, m, 1, "{1}")
	if m.Actors() != 2 || c.Actors() != 3 || m2.Actors() != 2 {
		t.Error(m.Actors(), c.Actors(), m2.Actors())
	}
}

// P16.5: of two clones each has what it was sent, put into its box and bound, though both had the same lists, with room behind them.
func TestCloneUnlike(t *testing.T) {
	p := laid(t, "actor M(k) { let b = spawn S(self, {'x, 1}); let c = spawn S(self, {'y, 2}); receive { {'x, x} { out {k, b, c, x}; stop } {'y, y} { out {k, b, c, y}; stop } } } actor S(to, v) { send to, 0; send to, v; stop } main M(9)")
	for _, arrived := range []int{0, 1, 2} {
		a := after(t, p, "r0 r0 r1 r2")
		arrives(t, a, 0, arrived)
		b := a.Clone()
		c := a.Clone()
		runs(t, a, 1, 1)
		runs(t, b, 2, 1)
		runs(t, c, 1, 1)
		arrives(t, a, 0, 3-arrived)
		arrives(t, b, 0, 3-arrived)
		runs(t, c, 2, 1)
		arrives(t, c, 0, 4-arrived)
		stands(t, a, 0, model.Receive, "", "", "0 0 {a0,1}")
		stands(t, b, 0, model.Receive, "", "", "0 0 {a1,2}")
		stands(t, c, 0, model.Receive, "", "", "0 0 {a0,1} {a1,2}")
		d := c.Clone()
		for _, x := range []*model.Model{a, b, c, d} {
			runs(t, x, 0, 1)
		}
		tells(t, a, 0, "{9,p1,p2,1}")
		tells(t, b, 0, "{9,p1,p2,2}")
		tells(t, c, 0, "{9,p1,p2,1}")
		stands(t, d, 0, model.Out, "{9,p1,p2,1}", "", "0 0 {a1,2}")
	}
	// Three messages more on the way, or in the box, and then unlike ones.
	p = laid(t, "actor M() { let a = spawn S(self, 1); let b = spawn S(self, 2); send self, 7; send self, 7; send self, 7; stop } actor S(to, v) { send to, v; stop } main M()")
	for _, arrived := range []int{0, 1, 2, 3} {
		a := after(t, p, "r0 r0 r0 r0 r0")
		arrives(t, a, 0, arrived)
		b := a.Clone()
		runs(t, a, 1, 1)
		runs(t, b, 2, 1)
		if l := a.Way(0); texts(l[len(l)-1:]) != "1" {
			t.Error(arrived, texts(l))
		}
		if l := b.Way(0); texts(l[len(l)-1:]) != "2" {
			t.Error(arrived, texts(l))
		}
		arrives(t, a, 0, 4-arrived)
		arrives(t, b, 0, 4-arrived)
		stands(t, a, 0, model.Stop, "", "", "7 7 7 1")
		stands(t, b, 0, model.Stop, "", "", "7 7 7 2")
	}
	// Unlike variables behind the same ones.
	p = laid(t, "actor M() { let a = 1; let b = 2; let c = 3; receive { 'x { let x = 4; out {a, b, c, x}; stop } after 0 { let y = 5; out {a, b, c, y}; stop } } } actor Z() { let m = spawn M(); send m, 'x; stop } main Z()")
	a := after(t, p, "r0 r0 r1 r1 r1 a1")
	b := after(t, p, "r0 r1 r1 r1 l1")
	c := after(t, p, "r0 r1 r1 r1")
	d := c.Clone()
	runs(t, a, 1, 2)
	runs(t, b, 1, 1)
	does(t, c, model.Late, 1, api.OK)
	runs(t, c, 1, 1)
	runs(t, d, 0, 1)
	arrives(t, d, 1, 1)
	runs(t, d, 1, 2)
	tells(t, a, 1, "{1,2,3,4}")
	tells(t, b, 1, "{1,2,3,5}")
	tells(t, c, 1, "{1,2,3,5}")
	tells(t, d, 1, "{1,2,3,4}")
}
