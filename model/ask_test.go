package model_test

import (
	"slices"
	"testing"

	"postbag/api"
	"postbag/model"
	"postbag/value"
)

// P16.5: a model that no call made, and numbers that are no actor's.
func TestNone(t *testing.T) {
	isNone := func(what string, m *model.Model, actor int) {
		t.Helper()
		message, arm, ok := m.Takes(actor)
		if m.Waiting(actor) != 0 || m.Next(actor) != model.None || len(m.Args(actor)) != 0 || len(m.Way(actor)) != 0 || len(m.Box(actor)) != 0 || message != 0 || arm != 0 || ok {
			t.Errorf("%s: %d", what, actor)
		}
	}
	for what, m := range map[string]*model.Model{"nil": nil, "a plain one": {}} {
		for _, actor := range []int{-1, 0, 1} {
			isNone(what, m, actor)
		}
		if m.Actors() != 0 || len(m.Moves()) != 0 || m.Key() != "" || m.Clone() != nil {
			t.Error(what)
		}
	}
	m := begun(t, "actor A() { send self, 1; let b = spawn B(); stop } actor B() { stop } main A()")
	for _, actor := range []int{-1 << 63, -1, 1, 2, 1<<63 - 1} {
		isNone("made", m, actor)
	}
	runs(t, m, 0, 2)
	runs(t, m, 1, 1)
	for _, actor := range []int{-1, 1, 2} {
		isNone("made, and one stopped", m, actor)
	}
}

// P16.5: what is next, and its Args, of each statement and each end.
func TestNext(t *testing.T) {
	for _, x := range []struct {
		does string
		next int
		args string
	}{
		{"let x = {1, 'a}; stop", model.Silent, "{1,a0}"},
		{"let b = spawn A(); stop", model.Spawn, ""},
		{"let b = spawn B(1 + 1, self); stop", model.Spawn, "2 p0"},
		{"send 3, {4}; stop", model.Send, "3 {4}"},
		{"out 'a; stop", model.Out, "a0"},
		{"become A()", model.Silent, ""},
		{"become B(1, {2})", model.Silent, "1 {2}"},
		{"stop", model.Stop, ""},
		{"if 2 < 3 { stop } else { stop }", model.Silent, "1"},
		{"receive { x when x { stop } }", model.Receive, ""},
		{"receive { after 3 { stop } }", model.Receive, ""},
	} {
		m := begun(t, "actor A() { "+x.does+" } actor B(x, y) { stop } main A()")
		stands(t, m, 0, x.next, x.args, "", "")
		if n := len(m.Args(0)); x.args == "" && n != 0 {
			t.Error(x.does, n)
		}
	}
}

// P16.5: all moves without an error, actor by actor, Run, Arrive, Late.
func TestMoves(t *testing.T) {
	m := begun(t, "actor A() { let b = spawn B(); let c = spawn C(); send b, 1; send c, 2; send self, 3; receive { 9 { stop } after 1 { stop } } } actor B() { receive { 2 { stop } } } actor C() { receive { 2 { stop } after 1 { stop } } } main A()")
	are := func(want ...model.Move) {
		t.Helper()
		if l := m.Moves(); !slices.Equal(l, want) {
			t.Errorf("%v, not %v", l, want)
		}
	}
	move := func(kind, actor int) model.Move { return model.Move{Kind: kind, Actor: actor} }
	are(move(model.Run, 0))
	runs(t, m, 0, 1)
	are(move(model.Run, 0))
	runs(t, m, 0, 1)
	are(move(model.Run, 0), move(model.Late, 2))
	runs(t, m, 0, 2)
	are(move(model.Run, 0), move(model.Arrive, 1), move(model.Arrive, 2), move(model.Late, 2))
	runs(t, m, 0, 1)
	are(move(model.Arrive, 0), move(model.Late, 0), move(model.Arrive, 1), move(model.Arrive, 2), move(model.Late, 2))
	arrives(t, m, 1, 1)
	arrives(t, m, 2, 1)
	are(move(model.Arrive, 0), move(model.Late, 0), move(model.Run, 2))
	runs(t, m, 2, 1)
	does(t, m, model.Late, 0, api.OK)
	are(move(model.Run, 0), move(model.Arrive, 0), move(model.Run, 2))
	runs(t, m, 2, 1)
	runs(t, m, 0, 1)
	are()
}

// P16.5: one that has too great a value does not run; messages arrive at it.
func TestMovesTooGreat(t *testing.T) {
	m := begun(t, grows("send self, 1; out {x}; stop"))
	for m.Next(0) != model.Out {
		runs(t, m, 0, 1)
	}
	stands(t, m, 0, model.Out, "", "1", "")
	if l := m.Moves(); !slices.Equal(l, []model.Move{{Kind: model.Arrive}}) {
		t.Error(l)
	}
	does(t, m, model.Run, 0, api.ErrRoom)
	arrives(t, m, 0, 1)
	stands(t, m, 0, model.Out, "", "", "1")
	does(t, m, model.Late, 0, api.ErrWait)
	does(t, m, model.Arrive, 0, api.ErrWait)
	does(t, m, model.Run, 0, api.ErrRoom)
}

// P16.5: the places of the message and the Arm that Run would take.
func TestTakes(t *testing.T) {
	m := begun(t, "actor A() { send self, 1; send self, {1, 5}; send self, {1, 4}; receive { 2 { stop } {1, x} when x < 5 { stop } {2, _} { stop } 1 when 0 { stop } after 9 { receive { {_, 5} { stop } 1 { stop } } } } } main A()")
	are := func(message, arm int, ok bool) {
		t.Helper()
		if i, k, is := m.Takes(0); i != message || k != arm || is != ok {
			t.Errorf("%d, %d, %v, not %d, %d, %v", i, k, is, message, arm, ok)
		}
	}
	are(0, 0, false)
	runs(t, m, 0, 2)
	arrives(t, m, 0, 2)
	are(0, 0, false) // it is at no receive yet
	runs(t, m, 0, 1)
	are(0, 0, false)
	late := m.Clone()
	arrives(t, m, 0, 1)
	are(2, 1, true)
	runs(t, m, 0, 1)
	are(0, 0, false)
	stands(t, m, 0, model.Stop, "", "", "1 {1,5}")
	m = late
	does(t, m, model.Late, 0, api.OK)
	are(0, 1, true)
	runs(t, m, 0, 1)
	stands(t, m, 0, model.Stop, "", "{1,4}", "{1,5}")
	runs(t, m, 0, 1)
	are(0, 0, false)
}

// P16.5: lists that were handed out stay as they were, whatever the model does then; and what is written into one changes none.
func TestListsStay(t *testing.T) {
	m := begun(t, "actor A(x) { send self, 1; send self, 2; send self, 3; receive { 2 { send self, 4; receive { 9 { stop } } } } } main A({1})")
	runs(t, m, 0, 3)
	arrives(t, m, 0, 2)
	way, box, args := m.Way(0), m.Box(0), m.Args(0)
	m.Way(0)[0], m.Box(0)[0] = integer(9), integer(9)
	moves := m.Moves()
	runs(t, m, 0, 2)
	arrives(t, m, 0, 2)
	if texts(way) != "3" || texts(box) != "1 2" || len(args) != 0 || len(moves) != 2 {
		t.Error(texts(way), texts(box), texts(args), moves)
	}
	stands(t, m, 0, model.Receive, "", "", "1 3 4")
	box = m.Box(0)
	box[0] = integer(9)
	if box = append(box, integer(9)); value.Text(box[3]) != "9" {
		t.Error(texts(box))
	}
	stands(t, m, 0, model.Receive, "", "", "1 3 4")
	does(t, m, model.Run, 0, api.ErrWait)
}

// P16.3: a model goes on as its program was, whatever becomes of that.
func TestProgramStays(t *testing.T) {
	p := laid(t, "actor A(x) { out x + 1; receive { {'a, y} when 0 < y { out {x, y}; stop } after 1 { send self, {'a, 7}; become A(x + 0) } } } main A(4)")
	m, _ := model.New(p)
	d := &p.Defs[0]
	d.Params[0] = "z"
	d.Body.Stmts[0].Args[0].Args[0].Name = "z"
	arm := &d.Body.Arms[0]
	arm.Pattern.Args[0].Name, arm.Guard[0].Args[1].Name, arm.Body.Kind = "b", "q", api.EndIf
	d.Body.Parts[0].Stmts[0].Args[1].Args[1].N, d.Body.Parts[0].Args[0].Args[1].N = 8, 9
	p.Defs[0].Body.Stmts, p.Args = nil, nil
	tells(t, m, 0, "5")
	does(t, m, model.Late, 0, api.OK)
	runs(t, m, 0, 2)
	arrives(t, m, 0, 1)
	tells(t, m, 0, "5")
	runs(t, m, 0, 1)
	tells(t, m, 0, "{4,7}")
}
