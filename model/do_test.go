package model_test

import (
	"testing"

	"postbag/api"
	"postbag/model"
	"postbag/value"
)

// P16.4: no model; then no such Kind or actor; then one that has stopped.
func TestDoWrong(t *testing.T) {
	for _, m := range []*model.Model{nil, {}} {
		for _, x := range []model.Move{{}, {Kind: 9}, {Actor: -1}} {
			if v, tells, e := m.Do(x); e != api.ErrNil || tells || value.Text(v) != "{}" {
				t.Error(x, tells, int(e))
			}
		}
	}
	m := begun(t, "actor A() { let b = spawn B(); receive { _ { stop } } } actor B() { stop } main A()")
	for _, kind := range []int{-1 << 63, -1, 3, 4, 1<<63 - 1} {
		does(t, m, kind, 0, api.ErrModel)
	}
	for _, actor := range []int{-1 << 63, -1, 1, 2, 1<<63 - 1} {
		for kind := range 4 {
			does(t, m, kind, actor, api.ErrModel)
		}
	}
	runs(t, m, 0, 1)
	runs(t, m, 1, 1)
	for kind := range 4 {
		does(t, m, kind, 1, api.ErrModel)
	}
	does(t, m, model.Run, 2, api.ErrModel)
	does(t, m, model.Run, 0, api.ErrWait)
}

// P16.4: let, out, become, stop and if.
func TestAlone(t *testing.T) {
	m := begun(t, "actor A(n) { let x = n + 1; out {x, n}; let y = x * 2; if y < 5 { let z = {y}; out z; become B(z, self, x) } else { out 'no; stop } } actor B(n, x, y) { out n; out x; out y; become A(5) } main A(1)")
	runs(t, m, 0, 1)
	tells(t, m, 0, "{2,1}")
	runs(t, m, 0, 3)
	tells(t, m, 0, "{4}")
	runs(t, m, 0, 1)
	tells(t, m, 0, "{4}")
	tells(t, m, 0, "p0")
	tells(t, m, 0, "2")
	runs(t, m, 0, 2)
	tells(t, m, 0, "{6,5}")
	runs(t, m, 0, 2)
	tells(t, m, 0, "a0")
	stands(t, m, 0, model.Stop, "", "", "")
	runs(t, m, 0, 1)
	stands(t, m, 0, model.None, "", "", "")
	does(t, m, model.Run, 0, api.ErrModel)
}

// P16.4: if goes on with its first part just if its value is an integer other than 0.
func TestIf(t *testing.T) {
	for src, holds := range map[string]bool{"1": true, "0 - 1": true, "0": false, "'a": false, "self": false, "{1}": false, "1 < 2": true, "2 < 1": false, "2305843009213693951 + 1": true} {
		m := begun(t, "actor A() { if "+src+" { out 1; stop } else { out 0; stop } } main A()")
		runs(t, m, 0, 1)
		if holds {
			tells(t, m, 0, "1")
		} else {
			tells(t, m, 0, "0")
		}
	}
}

// P16.4: spawn makes actors of the next numbers, of that kind, with those values.
func TestSpawn(t *testing.T) {
	m := begun(t, "actor A(x) { let b = spawn B(x, self); let c = spawn B(b, {b, x}); out {b, c}; stop } actor B(p, q) { out p; out q; let d = spawn A(self); out d; stop } main A('k)")
	stands(t, m, 0, model.Spawn, "a0 p0", "", "")
	stands(t, m, 1, model.None, "", "", "")
	runs(t, m, 0, 1)
	stands(t, m, 1, model.Out, "a0", "", "")
	stands(t, m, 0, model.Spawn, "p1 {p1,a0}", "", "")
	runs(t, m, 0, 1)
	if n := m.Actors(); n != 3 {
		t.Error(n)
	}
	tells(t, m, 0, "{p1,p2}")
	tells(t, m, 2, "p1")
	tells(t, m, 2, "{p1,a0}")
	runs(t, m, 2, 1)
	tells(t, m, 2, "p3")
	tells(t, m, 1, "a0")
	tells(t, m, 1, "p0")
	runs(t, m, 1, 1)
	tells(t, m, 1, "p4")
	stands(t, m, 3, model.Spawn, "p2 p3", "", "")
	stands(t, m, 4, model.Spawn, "p1 p4", "", "")
	stands(t, m, 0, model.Stop, "", "", "")
}

// P16.4: send puts a message behind those on the way to an actor; nothing is done, if the receiver is no actor's number.
func TestSend(t *testing.T) {
	m := begun(t, "actor A() { let b = spawn B(); send b, 1; send b, {2, b}; send self, 3; send 1, 4; send 'b, 5; send {b}, 6; send b, 7; stop } actor B() { receive { x { stop } } } main A()")
	runs(t, m, 0, 1)
	stands(t, m, 0, model.Send, "p1 1", "", "")
	runs(t, m, 0, 2)
	stands(t, m, 1, model.Receive, "", "1 {2,p1}", "")
	stands(t, m, 0, model.Send, "p0 3", "", "")
	runs(t, m, 0, 1)
	stands(t, m, 0, model.Send, "1 4", "3", "")
	runs(t, m, 0, 3)
	stands(t, m, 1, model.Receive, "", "1 {2,p1}", "")
	runs(t, m, 0, 1)
	stands(t, m, 1, model.Receive, "", "1 {2,p1} 7", "")
	stands(t, m, 0, model.Stop, "", "3", "")
	if m.Actors() != 2 {
		t.Error(m.Actors())
	}
}

// P16.4: a message arrives behind those in the box, the first one first.
func TestArrive(t *testing.T) {
	m := begun(t, "actor A() { send self, 1; send self, 2; send self, 3; stop } main A()")
	does(t, m, model.Arrive, 0, api.ErrWait)
	runs(t, m, 0, 2)
	arrives(t, m, 0, 1)
	stands(t, m, 0, model.Send, "p0 3", "2", "1")
	arrives(t, m, 0, 1)
	does(t, m, model.Arrive, 0, api.ErrWait)
	stands(t, m, 0, model.Send, "p0 3", "", "1 2")
	runs(t, m, 0, 1)
	arrives(t, m, 0, 1)
	stands(t, m, 0, model.Stop, "", "", "1 2 3")
}

// P16.4: what has stopped has lost its messages, those on the way and those in its box, and gets none that is sent to it then.
func TestStop(t *testing.T) {
	m := begun(t, "actor A() { let b = spawn B(); send b, 1; send b, 2; send b, 3; stop } actor B() { stop } main A()")
	runs(t, m, 0, 3)
	arrives(t, m, 1, 1)
	stands(t, m, 1, model.Stop, "", "2", "1")
	runs(t, m, 1, 1)
	stands(t, m, 1, model.None, "", "", "")
	does(t, m, model.Arrive, 1, api.ErrModel)
	runs(t, m, 0, 1)
	stands(t, m, 1, model.None, "", "", "")
	does(t, m, model.Arrive, 1, api.ErrModel)
	runs(t, m, 0, 1)
	if m.Actors() != 2 || len(m.Moves()) != 0 {
		t.Error(m.Actors(), m.Moves())
	}
}

// P16.4: a message to an actor that has stopped is kept nowhere, whatever it is; the send goes on, and what it is said to do next is what it ever is.
func TestSendToStopped(t *testing.T) {
	for src, v := range map[string]string{
		"1": "1", "'b": "a1", "self": "p0", "b": "p1", "c": "p2", "{b, {'a, 2}}": "{p1,{a0,2}}", "b + 1": "1", "x": value.Text(model.Eval(expr(t, great(4096)), nil, nil, nil, 0)),
	} {
		m := begun(t, "actor A(x) { let b = spawn B(); let c = spawn C(); send b, "+src+"; send c, "+src+"; out 'a; out 'b; stop } actor B() { stop } actor C() { receive { 9 { stop } } } main A("+great(4096)+")")
		runs(t, m, 0, 2)
		living := m.Clone()
		runs(t, m, 1, 1)
		stands(t, m, 0, model.Send, "p1 "+v, "", "")
		stands(t, living, 0, model.Send, "p1 "+v, "", "")
		runs(t, m, 0, 1)
		stands(t, m, 1, model.None, "", "", "")
		does(t, m, model.Arrive, 1, api.ErrModel)
		// One that has not stopped gets it.
		runs(t, living, 0, 1)
		stands(t, living, 1, model.Stop, "", v, "")
		stands(t, m, 0, model.Send, "p2 "+v, "", "")
		runs(t, m, 0, 1)
		stands(t, m, 1, model.None, "", "", "")
		stands(t, m, 2, model.Receive, "", v, "")
		tells(t, m, 0, "a0")
		tells(t, m, 0, "a1")
	}
	// A value that is too great is so whoever would get it.
	m := begun(t, "actor A(x) { let b = spawn B(); send b, {x}; stop } actor B() { stop } main A("+great(4095)+")")
	runs(t, m, 0, 1)
	runs(t, m, 1, 1)
	does(t, m, model.Run, 0, api.ErrRoom)
	stands(t, m, 0, model.Send, "", "", "")
	stands(t, m, 1, model.None, "", "", "")
}

// P16.4: it gets none from any actor: the one that made it, one that it made, one that was made behind its stop; and the first of all may have stopped, too.
func TestSendToStoppedByAny(t *testing.T) {
	// The one that sends was made behind the stop.
	m := begun(t, "actor A(n) { let b = spawn B(); let c = spawn C(b, n); stop } actor B() { stop } actor C(b, n) { if 0 < n { send b, n; become C(b, n - 1) } else { out 'end; stop } } main A(2)")
	runs(t, m, 0, 1)
	runs(t, m, 1, 1)
	runs(t, m, 0, 2)
	for range 2 {
		runs(t, m, 2, 3)
		stands(t, m, 0, model.None, "", "", "")
		stands(t, m, 1, model.None, "", "", "")
	}
	runs(t, m, 2, 1)
	tells(t, m, 2, "a0")
	runs(t, m, 2, 1)
	if l := m.Moves(); len(l) != 0 || m.Actors() != 3 {
		t.Error(l, m.Actors())
	}
	// Two that stop get what was sent ahead of that, till they stop, and nothing behind it.
	m = begun(t, "actor A() { let b = spawn B(self); let c = spawn S(self, b); send b, c; send c, 1; stop } actor B(a) { let d = spawn S(self, a); send d, 2; stop } actor S(x, y) { send x, {self}; send y, {self}; become S(x, y) } main A()")
	runs(t, m, 0, 2)
	runs(t, m, 1, 1)
	for _, k := range []int{2, 3} {
		runs(t, m, k, 3)
	}
	runs(t, m, 0, 1)
	stands(t, m, 0, model.Send, "p2 1", "{p2} {p3}", "")
	stands(t, m, 1, model.Send, "p3 2", "{p2} {p3} p2", "")
	arrives(t, m, 0, 1)
	runs(t, m, 0, 2)
	stands(t, m, 2, model.Send, "p0 {p2}", "1", "")
	for _, k := range []int{2, 3} {
		runs(t, m, k, 3)
	}
	stands(t, m, 0, model.None, "", "", "")
	stands(t, m, 1, model.Send, "p3 2", "{p2} {p3} p2 {p2} {p3}", "")
	arrives(t, m, 1, 2)
	runs(t, m, 1, 2)
	stands(t, m, 3, model.Send, "p1 {p3}", "2", "")
	for range 3 {
		for _, k := range []int{2, 3} {
			runs(t, m, k, 3)
		}
		stands(t, m, 0, model.None, "", "", "")
		stands(t, m, 1, model.None, "", "", "")
	}
	if l := m.Moves(); len(l) != 4 {
		t.Error(l)
	}
}

// P16.4: messages stay when an actor becomes another one, and its variables are that one's alone.
func TestBecome(t *testing.T) {
	m := begun(t, "actor A(x) { send self, 1; send self, 2; let y = 5; become B(y) } actor B(y) { let x = 7; out {x, y}; receive { z { out {x, y, z}; become B(z) } } } main A(0)")
	runs(t, m, 0, 3)
	arrives(t, m, 0, 1)
	stands(t, m, 0, model.Silent, "5", "2", "1")
	runs(t, m, 0, 2)
	tells(t, m, 0, "{7,5}")
	stands(t, m, 0, model.Receive, "", "2", "1")
	runs(t, m, 0, 1)
	tells(t, m, 0, "{7,5,1}")
	runs(t, m, 0, 2)
	tells(t, m, 0, "{7,1}")
	does(t, m, model.Run, 0, api.ErrWait)
	stands(t, m, 0, model.Receive, "", "2", "")
}

// P16.4: a receive takes the first message, in order, for which some Arm, in order, fits and lets it.
func TestReceive(t *testing.T) {
	for _, x := range []struct{ sent, arms, told, box string }{
		{"1", "x { out x; stop }", "1", ""},
		{"1 2 3", "x { out x; stop }", "1", "2 3"},
		{"1 2 3", "2 { out 'two; stop }", "a1", "1 3"},
		{"1 2 3", "3 { out 3; stop } 2 { out 2; stop }", "2", "1 3"},
		{"1 2 3", "x when 1 < x { out x; stop }", "2", "1 3"},
		{"1 2 3", "x when 2 < x { out x; stop } y when 1 < y { out {y}; stop }", "{2}", "1 3"},
		{"1 2 3", "x when 9 < x { out x; stop } _ { out 'any; stop }", "a0", "2 3"},
		{"{1,2} {2,1}", "{2, x} { out x; stop }", "1", "{1,2}"},
		{"{1,2} {2,1}", "{x, y} when y < x { out {y, x}; stop }", "{1,2}", "{1,2}"},
		{"1 {1} 2", "{x} when x == k { out x; stop } x when x == k { out {x, k}; stop }", "{1,1}", "{1} 2"},
		{"'b 'a", "'a { out 1; stop }", "1", "a1"},
		{"1 1 1", "1 when 0 { out 1; stop } 1 when {1} { out 2; stop } 1 when 'a { out 3; stop } 1 when 0 - 1 { out 4; stop }", "4", "1 1"},
		{"5 6", "x when 5 < x { out x; stop }", "6", "5"},
	} {
		sends, n := "", 1
		for i, c := range x.sent + " " {
			if c == ' ' {
				sends += "send self, " + x.sent[n-1:i] + "; "
				n = i + 2
			}
		}
		m := begun(t, "actor A(k) { "+sends+"receive { "+x.arms+" after 0 { out 'late; stop } } } main A(1)")
		for m.Next(0) == model.Send {
			runs(t, m, 0, 1)
		}
		does(t, m, model.Run, 0, api.ErrWait)
		for len(m.Way(0)) > 0 {
			arrives(t, m, 0, 1)
		}
		does(t, m, model.Late, 0, api.ErrWait)
		runs(t, m, 0, 1)
		tells(t, m, 0, x.told)
		stands(t, m, 0, model.Stop, "", "", x.box)
	}
}

// P16.4: no message that fits: what is on the way, and what does not fit, is waited behind.
func TestReceiveWaits(t *testing.T) {
	m := begun(t, "actor A() { send self, 1; send self, 2; send self, 3; receive { 3 { out 'three; stop } x when x == 4 { out x; stop } } } main A()")
	runs(t, m, 0, 3)
	does(t, m, model.Run, 0, api.ErrWait)
	does(t, m, model.Late, 0, api.ErrWait)
	arrives(t, m, 0, 2)
	does(t, m, model.Run, 0, api.ErrWait)
	stands(t, m, 0, model.Receive, "", "3", "1 2")
	arrives(t, m, 0, 1)
	runs(t, m, 0, 1)
	stands(t, m, 0, model.Out, "a0", "", "1 2")
}

// P16.4: Late goes on behind after, if it is at such a receive, and no message in the box would be received.
func TestLate(t *testing.T) {
	m := begun(t, "actor A() { send self, 1; send self, 2; receive { 2 { out 2; stop } after 9 { let y = 5; receive { 2 { out {y}; stop } after 0 { out 'late; stop } } } } } main A()")
	does(t, m, model.Late, 0, api.ErrWait)
	runs(t, m, 0, 1)
	does(t, m, model.Late, 0, api.ErrWait)
	runs(t, m, 0, 1)
	early := m.Clone()
	arrives(t, early, 0, 1)
	later := early.Clone()
	does(t, early, model.Late, 0, api.OK)
	stands(t, early, 0, model.Silent, "5", "2", "1")
	does(t, early, model.Late, 0, api.ErrWait)
	runs(t, early, 0, 1)
	arrives(t, early, 0, 1)
	does(t, early, model.Late, 0, api.ErrWait)
	runs(t, early, 0, 1)
	tells(t, early, 0, "{5}")
	arrives(t, later, 0, 1)
	does(t, later, model.Late, 0, api.ErrWait)
	runs(t, later, 0, 1)
	tells(t, later, 0, "2")
	// What is on the way does not count.
	does(t, m, model.Late, 0, api.OK)
	runs(t, m, 0, 1)
	does(t, m, model.Late, 0, api.OK)
	stands(t, m, 0, model.Out, "a0", "1 2", "")
	does(t, m, model.Late, 0, api.ErrWait)
	m = begun(t, "actor A() { receive { _ { stop } } } main A()")
	does(t, m, model.Late, 0, api.ErrWait)
	m = begun(t, "actor A() { receive { after 3 { out 1; stop } } } main A()")
	does(t, m, model.Run, 0, api.ErrWait)
	does(t, m, model.Late, 0, api.OK)
	tells(t, m, 0, "1")
}

// grows is a program whose actor has a value of 4096 words, x, one of MaxDepth tuples, y, and z, a small one; it then does something.
func grows(does string) string {
	return "actor A(x, y, z) { " + does + " } actor B(n, x, y) { if n < 63 { become B(n + 1, x, {y}) } else { become A(x, y, {0}) } } main B(0, " + great(4096) + ", {0})"
}

// P16.4: a value of the Args that is too great: ErrRoom, and nothing is done.
func TestTooGreat(t *testing.T) {
	for does, room := range map[string]bool{
		"let a = x; stop":                      true,
		"let a = y; stop":                      true,
		"let a = {z}; stop":                    true,
		"let a = {x}; stop":                    false,
		"let a = {y}; stop":                    false,
		"let a = {z, x}; stop":                 false,
		"let a = {1, {2, y}}; stop":            false,
		"let a = ({x, x} == {y}); stop":        true,
		"let a = {y} + {x}; stop":              true,
		"out x; stop":                          true,
		"out {x}; stop":                        false,
		"out {y}; stop":                        false,
		"send self, x; stop":                   true,
		"send self, {x}; stop":                 false,
		"send {x}, 1; stop":                    false,
		"send 1, {y}; stop":                    false,
		"let a = spawn A(x, y, z); stop":       true,
		"let a = spawn A(z, z, {x}); stop":     false,
		"let a = spawn A({y}, z, z); stop":     false,
		"become A(x, y, z)":                    true,
		"become A(x, {y}, z)":                  false,
		"if x { stop } else { stop }":          true,
		"if {x} { stop } else { stop }":        false,
		"if {y} { stop } else { stop }":        false,
		"if {{y}} == 1 { stop } else { stop }": true,
	} {
		m := begun(t, grows(does))
		for i := 0; m.Next(0) == model.Silent && i < 2*63+2; i++ {
			runs(t, m, 0, 1)
		}
		before := m.Key()
		next := m.Next(0)
		_, _, e := m.Do(model.Move{})
		if room {
			if e != api.OK || m.Key() == before && does != "become A(x, y, z)" {
				t.Errorf("%s: %d", does, int(e))
			}
			continue
		}
		if e != api.ErrRoom || m.Key() != before || m.Next(0) != next || len(m.Args(0)) != 0 || m.Actors() != 1 || m.Waiting(0) != 0 || len(m.Moves()) != 0 {
			t.Errorf("%s: %d", does, int(e))
		}
	}
}

// P16.4: a Guard's value is none of the Args: what it reckons may be as great as it is.
func TestGreatGuard(t *testing.T) {
	m := begun(t, grows("send self, x; receive { a when {a, x} { out 1; stop } a when {a, y} == 1 { out 2; stop } a when ({a, x} == 1) == 0 { out 3; stop } }"))
	for m.Next(0) != model.Send {
		runs(t, m, 0, 1)
	}
	runs(t, m, 0, 1)
	arrives(t, m, 0, 1)
	runs(t, m, 0, 1)
	tells(t, m, 0, "3")
}
