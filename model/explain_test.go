package model_test

import (
	"slices"
	"strings"
	"testing"

	"postbag/api"
	"postbag/model"
	"postbag/tree"
	"postbag/value"
)

func isExplained(t *testing.T, p api.Program, outs []api.Value, most int, found, whole bool) {
	t.Helper()
	if f, w := model.Explain(p, outs, most); f != found || w != whole {
		t.Errorf("%.200s: %s by %d: %v, %v, not %v, %v", tree.Print(p), texts(outs), most, f, w, found, whole)
	}
}

// P16.6: what is told, and what is not.
func TestExplain(t *testing.T) {
	p := laid(t, "actor A() { out 1; stop } main A()") // the chapter's example
	isExplained(t, p, integers(1), 100, true, true)
	isExplained(t, p, integers(2), 100, false, true)
	isExplained(t, p, nil, 100, true, true)
	isExplained(t, p, integers(1, 1), 100, false, true)
	isExplained(t, p, []api.Value{atom(1)}, 100, false, true)
	isExplained(t, p, []api.Value{{}}, 100, false, true)
	p = laid(t, "actor A(n) { out n; if n < 2 { become A(n + 1) } else { stop } } main A(0)")
	for _, l := range [][]int{{}, {0}, {0, 1}, {0, 1, 2}} {
		isExplained(t, p, integers(l...), 100, true, true)
	}
	for _, l := range [][]int{{1}, {0, 2}, {0, 0}, {1, 2}, {0, 1, 2, 3}, {2, 1, 0}} {
		isExplained(t, p, integers(l...), 100, false, true)
	}
	// What two actors tell is mixed in any way, each one's in its order.
	p = laid(t, "actor A() { let b = spawn B(10); let c = spawn B(20); stop } actor B(n) { out n; out n + 1; stop } main A()")
	for _, l := range [][]int{{10, 11, 20, 21}, {20, 10, 21, 11}, {20, 21, 10, 11}, {10, 20}, {20, 10, 11}} {
		isExplained(t, p, integers(l...), 1000, true, true)
	}
	for _, l := range [][]int{{11}, {10, 21}, {10, 11, 10}, {20, 21, 11}, {10, 11, 20, 21, 0}} {
		isExplained(t, p, integers(l...), 1000, false, true)
	}
	p = laid(t, "actor A() { receive { x { stop } after 3 { out {'late, self}; send self, 1; receive { x { out x; stop } after 2 { out 'never; stop } } } } } main A()")
	isExplained(t, p, []api.Value{tuple(atom(0), pid(0)), integer(1)}, 100, true, true)
	isExplained(t, p, []api.Value{tuple(atom(0), pid(0)), atom(1)}, 100, true, true)
	isExplained(t, p, []api.Value{tuple(atom(0), pid(0)), atom(1), integer(1)}, 100, false, true)
	isExplained(t, p, []api.Value{tuple(atom(0), pid(1))}, 100, false, true)
	isExplained(t, p, []api.Value{integer(1)}, 100, false, true)
}

// P16.6: programs that may not be, and one of which Main has too great a value.
func TestExplainWrong(t *testing.T) {
	for _, outs := range [][]api.Value{nil, integers(1)} {
		for _, most := range []int{-1, 0, 1, 1000} {
			isExplained(t, api.Program{}, outs, most, false, true)
			for _, src := range []string{"actor A() { out x; stop } main A()", "actor A() { stop } main B()", "actor A() { stop } main A(1)", "actor A(x, x) { stop } main A(1, 2)"} {
				isExplained(t, laid(t, src), outs, most, false, true)
			}
			isExplained(t, laid(t, "actor A(x) { out 1; stop } main A("+great(4097)+")"), outs, most, false, false)
		}
	}
}

// P16.6: with most too small the second one is false; what is found is found within most.
func TestExplainMost(t *testing.T) {
	p := laid(t, "actor A() { out 1; stop } main A()")
	for most := range 4 {
		isExplained(t, p, nil, most, true, true)
		isExplained(t, p, integers(1), most, most > 0, most > 0)
		isExplained(t, p, integers(2), most, false, most > 0)
		// The second model is the one that told 1, the third one has stopped.
		isExplained(t, p, integers(1, 1), most, false, most > 2)
	}
	isExplained(t, p, integers(1), -1, false, false)
	isExplained(t, p, integers(2), -1<<63, false, false)
	isExplained(t, p, integers(2), 1<<63-1, false, true)
	// Of what goes on for ever not all is tried; but what comes soon is found.
	p = laid(t, "actor A(n) { become A(n + 1) } main A(0)")
	isExplained(t, p, integers(1), 500, false, false)
	// A model that comes again is tried once.
	p = laid(t, "actor A(n) { if 1 { become A(n) } else { out 1; stop } } main A(0)")
	isExplained(t, p, integers(1), 1, false, false)
	isExplained(t, p, integers(1), 2, false, true)
	p = laid(t, "actor Z(n) { become Z(n + 1) } actor A() { let z = spawn Z(0); let b = spawn B(0); stop } actor B(n) { out n; become B(n + 1) } main A()")
	isExplained(t, p, integers(0, 1, 2, 3, 4, 5, 6, 7), 2000, true, true)
	isExplained(t, p, integers(0, 1, 3), 2000, false, false)
	// And what takes many moves of many actors.
	p = laid(t, "actor M() { let d = spawn P(self); let c = spawn P(d); let b = spawn P(c); let a = spawn P(b); send a, 1; send a, 2; send a, 3; become R(0) } actor P(to) { receive { x { send to, x * 2; become P(to) } } } actor R(n) { receive { x { if n == 2 { out x; stop } else { become R(n + 1) } } } } main M()")
	isExplained(t, p, integers(48), 2000, true, true)
	isExplained(t, p, integers(47), 2000, false, false)
}

// P16.6: messages to one that has stopped make no models more that are to be tried.
func TestExplainStopped(t *testing.T) {
	// Ahead of its stop the message is on its way or has arrived: nine models; and with two messages 14.
	for sends, models := range map[string]int{"": 5, "send b, 1;": 9, "send b, 1; send b, {2};": 14} {
		p := laid(t, "actor A() { let b = spawn B(); "+sends+" stop } actor B() { stop } main A()")
		isExplained(t, p, integers(1), models, false, true)
		isExplained(t, p, integers(1), models-1, false, false)
	}
	// One that stops ahead of all that is sent to it, for ever.
	p := laid(t, "actor A(b) { let c = spawn C(b, self); stop } actor C(b, a) { send b, 1; send a, {2}; become C(b, a) } main A(self)")
	m := after(t, p, "r0 r0")
	key := m.Key()
	for range 3 {
		runs(t, m, 1, 3)
		if m.Key() != key {
			t.Error(m.Key(), key)
		}
	}
	// What is told behind many of them is found by as few models as if nothing were sent.
	p = laid(t, "actor A() { let b = spawn B(self); receive { 'gone { become C(b, 12) } } } actor B(a) { send a, 'gone; stop } actor C(b, n) { if 0 < n { send b, n; become C(b, n - 1) } else { out n; stop } } main A()")
	isExplained(t, p, integers(0), 200, true, true)
	isExplained(t, p, integers(1), 5000, false, true)
}

// P16.6: a model of more than 16 actors is not gone on with.
func TestExplainActors(t *testing.T) {
	src := func(more string) string {
		return "actor A(n) { if n < 14 { let b = spawn S(); become A(n + 1) } else { out n; let b = spawn S(); out 'made; " + more + "; stop } } actor S() { stop } main A(0)"
	}
	// 16 actors are made in all; most of them stop, in any order.
	p := laid(t, src("out 'end"))
	isExplained(t, p, []api.Value{integer(14), atom(1), atom(0)}, 3000, true, true)
	p = laid(t, "actor A(n) { if n < 15 { let b = spawn W(); become A(n + 1) } else { out n; stop } } actor W() { receive { _ { stop } } } main A(0)")
	isExplained(t, p, integers(15), 100, true, true)
	isExplained(t, p, integers(16), 100, false, true)
	isExplained(t, p, integers(15, 15), 100, false, true)
	p = laid(t, "actor A(n) { if n < 16 { let b = spawn W(); become A(n + 1) } else { out n; stop } } actor W() { receive { _ { stop } } } main A(0)")
	isExplained(t, p, integers(16), 100, false, false)
	isExplained(t, p, nil, 100, true, true)
	p = laid(t, "actor A(n) { out n; let b = spawn W(); become A(n + 1) } actor W() { receive { _ { stop } } } main A(0)")
	isExplained(t, p, integers(0, 1, 2, 3, 4, 5, 6, 7, 8, 9, 10, 11, 12, 13, 14, 15), 1000, true, true)
	isExplained(t, p, integers(0, 1, 2, 3, 4, 5, 6, 7, 8, 9, 10, 11, 12, 13, 14, 15, 16), 1000, false, false)
	isExplained(t, p, integers(0, 1, 2, 4), 1000, false, true)
}

// P16.6: a model in which one has too great a value to reckon is not gone on with, not even by what others would do.
func TestExplainTooGreat(t *testing.T) {
	p := laid(t, grows("out 1; out {x}; stop"))
	isExplained(t, p, integers(1), 1000, true, true)
	isExplained(t, p, integers(2), 1000, false, true)
	isExplained(t, p, integers(1, 2), 1000, false, false)
	p = laid(t, "actor A(x) { let b = spawn B(); become C(x) } actor B() { out 1; stop } actor C(x) { become C({x, x}) } main A(0)")
	isExplained(t, p, integers(1), 1000, true, true)
	isExplained(t, p, integers(2), 1000, false, false)
	p = laid(t, "actor A(x) { let b = spawn B(); let y = {x, x, x, x}; out 2; stop } actor B() { out 1; stop } main A("+great(1100)+")")
	isExplained(t, p, integers(1), 1000, false, false)
	isExplained(t, p, integers(2), 1000, false, false)
}

// reached tells, by a second telling, whether the outs can be told; how many unlike models there are on the way that are
// gone on with, up to a limit; and whether some are not gone on with.
func reached(p api.Program, outs []api.Value, limit int) (found bool, models int, left bool) {
	m, _ := plainly(p)
	type trial struct {
		m    *plain
		told int
	}
	type like struct {
		state string
		told  int
	}
	list := []trial{{m, 0}}
	met := map[like]bool{}
	for len(list) > 0 && models <= limit {
		x := list[0]
		list = list[1:]
		if x.told == len(outs) {
			return true, models, left
		}
		k := like{x.m.state(), x.told}
		if met[k] {
			continue
		}
		met[k] = true
		if len(x.m.actors) > 16 || slices.ContainsFunc(x.m.actors, func(a *player) bool {
			args, _ := a.next()
			_, e := x.m.args(a, 0, args)
			return e != api.OK
		}) {
			left = true
			continue
		}
		models++
		for _, move := range x.m.moves() {
			next := trial{x.m.clone(), x.told}
			told, _ := next.m.do(move)
			if told != "" {
				if told != value.Text(outs[x.told]) {
					continue
				}
				next.told++
			}
			list = append(list, next)
		}
	}
	return false, models, left
}

// outsOf tells what a program told by thrown moves.
func outsOf(r *row, p api.Program, moves int) []api.Value {
	m, e := model.New(p)
	if e != api.OK {
		return nil
	}
	var outs []api.Value
	for range moves {
		l := m.Moves()
		if len(l) == 0 {
			break
		}
		if v, tells, _ := m.Do(one(r, l...)); tells {
			outs = append(outs, v)
		}
	}
	return outs
}

// P16.6, P16.9: what was told by thrown moves, and what is like it, held against a second search; just as many models as there are suffice.
func TestExplainPlainly(t *testing.T) {
	r := row(11)
	told := map[string]int{}
	ending := []api.Program{
		laid(t, "actor A(n) { if n < 16 { let b = spawn W(); become A(n + 1) } else { out n; stop } } actor W() { receive { _ { stop } } } main A(0)"),
		laid(t, "actor A(n) { if n < 15 { let b = spawn W(); become A(n + 1) } else { out n; stop } } actor W() { receive { _ { stop } } } main A(0)"),
		laid(t, "actor A(x) { out 1; let y = {x, 1}; out 0; become B({x, x, x, x}) } actor B(x) { out 2; stop } main A("+great(1100)+")"),
	}
	for _, p := range slices.Concat(thrown(t, 12, 300), programs(t), programs(t), slices.Repeat(ending, 6)) {
		if _, e := plainly(p); e != api.OK {
			continue
		}
		outs := outsOf(&r, p, 40)
		outs = outs[:min(len(outs), 1+r.next(4))]
		if len(outs) > 0 && r.next(3) == 0 {
			outs = slices.Clone(outs)
			outs[r.next(len(outs))] = one(&r, append(integers(0, 1, 2), atom(0), outs[0])...)
		}
		if r.next(5) == 0 {
			outs = append(slices.Clip(outs), integer(1))
		}
		const limit = 150
		found, models, left := reached(p, outs, limit)
		switch {
		case found:
			told["found"]++
			isExplained(t, p, outs, 20000, true, true)
		case models > limit:
			// Not all can be tried, but what is found by other ways than this one is.
			told["many"]++
			if f, w := model.Explain(p, outs, limit); f != w {
				t.Errorf("%.200s: %s: %v, %v", tree.Print(p), texts(outs), f, w)
			}
		default:
			told["not"]++
			if left {
				told["left"]++
			}
			isExplained(t, p, outs, models, false, !left)
			isExplained(t, p, outs, models+1, false, !left)
			isExplained(t, p, outs, models-1, false, false)
		}
	}
	for _, what := range []string{"found", "many", "not", "left"} {
		if told[what] < 3 {
			t.Error(told)
		}
	}
}

// P16.9: what a model told, by any moves, is explained, or not all was tried.
func TestExplained(t *testing.T) {
	r := row(13)
	found := 0
	for _, p := range slices.Concat(thrown(t, 14, 60), programs(t), programs(t), programs(t)) {
		outs := outsOf(&r, p, 60)
		outs = outs[:min(len(outs), 6)]
		f, whole := model.Explain(p, outs, 2000)
		if !f && whole {
			t.Errorf("%s: %s", texts(outs), tree.Print(p))
		}
		if f {
			found++
		}
	}
	if found < 70 {
		t.Error(found)
	}
}

// P16.6: what comes in is not changed, and the same is told again.
func TestExplainAgain(t *testing.T) {
	for _, p := range programs(t) {
		text := tree.Print(p)
		outs := []api.Value{integer(0), tuple(integer(0), pid(1)), integer(1)}
		before := texts(outs)
		for _, most := range []int{0, 3, 30, 300} {
			f, w := model.Explain(p, outs, most)
			isExplained(t, p, outs, most, f, w)
		}
		if texts(outs) != before || tree.Print(p) != text {
			t.Error(strings.TrimSpace(text))
		}
	}
}
