package lower_test

import (
	"fmt"
	"strings"
	"testing"

	"postbag/api"
	"postbag/bench"
	"postbag/image"
	"postbag/items"
)

// sends tells statements that send messages to the actor itself.
func sends(l ...string) string {
	s := ""
	for _, m := range l {
		s += "send self, " + m + "; "
	}
	return s
}

// P25.2: patterns of every kind.
func TestPatterns(t *testing.T) {
	messages := []string{"0", "1", "0 - 1", "2305843009213693951", "0 - 2305843009213693951", "'a", "'b", "self", "{1}", "{'a}", "{1, 2}", "{1, {2, 3}}", "{{1, 'a}, 2, {3}}", "{1, 2, 3, 4}", "{{{{{5}}}}}", "{self, {'a, {0}}}"}
	patterns := []string{"_", "v", "0", "1", "-1", "2305843009213693951", "-2305843009213693951", "'a", "'b", "{_}", "{v}", "{1}", "{'a}", "{v, w}", "{1, w}", "{_, {v, _}}", "{_, {_, 3}}", "{{v, 'a}, _, {w}}", "{{1, v}, w, u}", "{v, w, u, z}", "{_, _, _, 4}", "{{{{{v}}}}}", "{{{{v}}}}", "{v, {'a, {0}}}", "{v, {'b, {0}}}", "{v, {w, u}}"}
	var l []scene
	for k, m := range messages {
		for _, p := range patterns {
			var vars []string
			for _, v := range []string{"v", "w", "u", "z"} {
				if strings.Contains(p, v) {
					vars = append(vars, v)
				}
			}
			told := "{" + strings.Join(append([]string{"'yes"}, vars...), ", ") + "}"
			if len(vars) == 4 {
				told = "{v, {w, u, z}}"
			}
			l = append(l, scene{name: fmt.Sprint(k, p), src: actor("let none = {'a, 'b}; " + sends(m) + "receive { " + p + " { out " + told + "; stop } after 0 { out none; stop } }")})
		}
	}
	for _, s := range l {
		t.Run(s.name, func(t *testing.T) {
			t.Parallel()
			w := plain(t, s.src, roomy()) // held against the model
			if len(w.outs) != 1 || w.full {
				w.Fatalf("%s", w.told())
			}
		})
	}
}

// P25.2: of the messages the first one that fits is received, by the first arm that it fits; the others stay, in order.
func TestReceive(t *testing.T) {
	rest := "receive { a { receive { b { receive { c { out {a, b, c}; stop } } } } } }"
	plays(t, 41, 4, []scene{
		{name: "the first one", src: actor(sends("1", "2", "3", "4") + "receive { x { out x; " + rest + " } }"), told: "1 {2,3,4}"},
		{name: "in the midst", src: actor(sends("1", "2", "'m", "4") + "receive { 'm { " + rest + " } }"), told: "{1,2,4}"},
		{name: "the last one", src: actor(sends("1", "2", "3", "'m") + "receive { 'm { " + rest + " } }"), told: "{1,2,3}"},
		{name: "two of it", src: actor(sends("1", "{'m, 1}", "2", "{'m, 2}", "3") + "receive { {'m, x} { out x; receive { {'m, y} { out y; " + rest + " } } } }"), told: "1 2 {1,2,3}"},
		{name: "the last two, backwards", src: actor(sends("1", "2", "3", "'m", "'n") + "receive { 'n { receive { 'm { " + rest + " } } } }"), told: "{1,2,3}"},
		{name: "behind all that were left", src: actor(sends("1", "'m") + "receive { 'm { " + sends("2", "'n", "3") + "receive { 'n { " + rest + " } } } }"), told: "{1,2,3}"},
		{name: "the list is empty between", src: actor(sends("1", "'m") + "receive { 'm { receive { 1 { " + sends("2", "'n", "3", "4") + "receive { 'n { " + rest + " } } } } } }"), told: "{2,3,4}"},
		{name: "the first arm", src: actor(sends("{1, 2}") + "receive { {2, x} { out 'a; stop } {1, x} { out {x}; stop } {x, y} { out {x, y}; stop } z { out z; stop } }"), told: "{2}"},
		{name: "the first arm, whole", src: actor(sends("5") + "receive { x { out {x}; stop } 5 { out 'a; stop } }"), told: "{5}"},
		{name: "a message ahead of an arm", src: actor(sends("1", "2") + "receive { 2 { out 'a; stop } 1 { out 'b; stop } }"), told: "a1"},
		{name: "wildcards", src: actor(sends("{1, {2, 3}, 4}") + "receive { {_, {_, x}, _} { out x; stop } }"), told: "3"},
		{name: "a wildcard alone", src: actor(sends("{1, 2}", "3") + "receive { _ { receive { x { out x; stop } } } }"), told: "3"},
		{name: "names again", src: actor(sends("{1}", "{2, 3}") + "receive { {x, y} { out {x, y}; receive { {x2} { out x2; stop } } } {x} { out x; receive { {y, z} { out {x, y, z}; stop } } } }"), told: "1 {1,2,3}"},
		{name: "variables of before", src: "actor A(a, b) { let c = {a}; " + sends("{a, b}") + "receive { {x, y} { let z = {x, c}; out {a, b, c}; out {x, y, z}; stop } } } main A(1, {2})", told: "{1,{2},{1}} {1,{2},{1,{1}}}"},
		{name: "as many as there are blocks", src: actor(sends("1", "2", "3", "4", "5", "6", "7", "'m") + "receive { 'm { receive { 7 { receive { 1 { " + sends("8", "9") + "receive { 9 { receive { 4 { receive { 6 { " + rest + " } } } } } } } } } } } }"), told: "{2,3,5}"},
		{name: "nothing for ever but late", src: actor(sends("1") + "receive { 'm { stop } after 2 { receive { x { out x; stop } } } }"), told: "1"},
	})
}

// P25.2: patterns as deep as messages may be, and far deeper: what is too deep fits none.
func TestDeepPatterns(t *testing.T) {
	in := func(n int, s string) string { return strings.Repeat("{", n) + s + strings.Repeat("}", n) }
	var l []scene
	for _, deep := range []int{14, 15} {
		l = append(l,
			scene{name: fmt.Sprint(deep), src: actor(sends(in(deep, "5")) + "receive { " + in(deep, "x") + " when x == 5 { out x; stop } }"), told: "5"},
			scene{name: fmt.Sprint(deep, " and more"), src: actor(sends(in(deep, "5")) + "receive { " + in(deep+1, "x") + " { out 0; stop } " + in(deep, "{x, y}") + " { stop } " + in(deep, "x") + " { out {x}; stop } }"), told: "{5}"},
			scene{name: fmt.Sprint(deep, ", the heap's room"), src: "actor A(a) { " + sends(in(deep, "5")) + "become B() } actor B() { receive { " + in(deep-1, "x") + " { out x; stop } } } main A({1, 2})", told: "{5}", c: api.Conf{Actors: 1, Blocks: 1, Words: 2*deep + 3, Budget: 1}})
	}
	for _, deep := range []int{16, 17, 30, 58} {
		l = append(l,
			scene{name: fmt.Sprint(deep), src: actor(sends("1", in(15, "5")) + "receive { " + in(deep, "x") + " when x { out x; stop } " + in(deep, "7") + " { stop } 1 { receive { " + in(deep, "'a") + " { stop } {x} { out 1; stop } } } }"), told: "1"},
			scene{name: fmt.Sprint(deep, ", many parts"), src: actor(sends("{1, 2, 3, {4, 5, 6, 7}}") + "receive { " + strings.Repeat("{_, 2, 3, ", deep) + "{x, y}" + strings.Repeat("}", deep) + " when x < y { stop } {1, x, _, {4, y, _, z}} { out {x, y, z}; stop } }"), told: "{2,5,7}"})
	}
	plays(t, 44, 2, l)
}

// P25.2: guards: those that do not hold, that use what the pattern binds, and what was bound ahead, and tuples.
func TestGuards(t *testing.T) {
	plays(t, 42, 4, []scene{
		{name: "false", src: actor(sends("1") + "receive { x when 0 { out 'a; stop } y when y { out {y}; stop } }"), told: "{1}"},
		{name: "of no integer", src: actor(sends("'a", "1") + "receive { x when x { out {x}; stop } } "), told: "{1}"},
		{name: "the first one that it holds for", src: actor(sends("1", "5", "3", "7") + "receive { x when 4 < x { out x; receive { y when 4 < y { out y; receive { z { out z; stop } } } } } }"), told: "5 7 1"},
		{name: "parts", src: actor(sends("{1, 2}", "{3, {3, 4}}", "{5, {5, 5}}", "{6, {'a, 6}}") + "receive { {x, {y, z}} when y == z { out {x, y, z}; receive { {x2, {y2, z2}} when x2 == z2 { out {x2, y2, z2}; stop } } } }"), told: "{5,5,5} {6,a0,6}"},
		{name: "variables of before", src: "actor A(a, b) { " + sends("1", "2", "{3}") + "receive { x when a < x { out {a, x}; receive { {y} when b == y { out {y, b}; stop } } } } } main A(1, 3)", told: "{1,2} {3,3}"},
		{name: "of whom it is", src: actor(sends("1", "self") + "receive { x when x == self { out x; stop } }"), told: "p0"},
		{name: "tuples", src: actor(sends("{1}", "2", "3") + "receive { {x} when {x} == {x} { out 'a; stop } x when {x, x} { out 'b; stop } x when {x} < x { out {x}; receive { y { receive { z { out {y, z}; stop } } } } } }"), told: "{2} {{1},3}"},
		{name: "a tuple is no integer", src: actor(sends("{1}", "0 - 5", "0") + "receive { x when 0 - 5 < x - {x} { out x; stop } }"), told: "{1}"},
		{name: "whole tuples", src: actor(sends("{1, {2}}", "{3, {4}}") + "receive { {x, y} when x == 3 { out {x, y}; stop } }"), told: "{3,{4}}"},
		{name: "arms behind one that does not hold", src: actor(sends("{1, 2}") + "receive { {1, x} when x == 1 { out 'a; stop } {1, x} when x == 3 { out 'b; stop } {x, 2} when x == 1 { out {x}; stop } _ { out 'c; stop } }"), told: "{1}"},
		{name: "the last arm does not hold", src: actor(sends("1", "2") + "receive { {x} { stop } x when x == 2 { out x; stop } }"), told: "2"},
		{name: "what needs many values", src: "actor A(a, b, c) { " + sends("3", "4") + "receive { x when (((a + b) * (b + c)) + ((c + x) * (x + a))) == 66 { out x; stop } } } main A(1, 2, 5)", told: "4"},
		{name: "a heap that has no room for it", src: "actor A(a) { " + sends("3", "4") + "receive { x when {{{{1, 2, 3, 4}, 2, 3, 4}, 2, 3, x}, 2, 3, 4} < x - 3 { out {x, a}; stop } } } main A({1, 2, 3, 4})", told: "{4,{1,2,3,4}}", c: api.Conf{Actors: 1, Blocks: 4, Words: 8, Budget: 2}},
		{name: "again and again", src: "actor A(a) { " + sends("1", "2", "3", "4", "5", "6") + "receive { x when {{{{1, 2, 3, 4}, 2, 3, 4}, 2, 3, x}, 2, 3, 4} < x - 5 { out {x, a}; receive { y when {y, {y, y, y}, {y, y, y}, {y, y, y}} { stop } y { receive { z { out {y, z}; stop } } } } } } } main A({1, 2, 3})", told: "{6,{1,2,3}} {1,2}", c: api.Conf{Actors: 1, Blocks: 6, Words: 8, Budget: 2}},
	})
}

// P25.2: what a guard reckons has no room in the heap.
func TestGuardsLayNothing(t *testing.T) {
	w := plain(t, actor(sends("1", "2", "3")+"receive { x when {x, {x, 1}} == x { stop } x when {x} { stop } x when {x} < x - 2 { out x; stop } }"), roomy())
	at := image.Actor(w.i.Layout, 0)
	if heap, alloc := w.word(at+8*image.WHeap), w.word(at+8*image.WAlloc); w.told() != "3" || heap != alloc {
		w.Fatalf("%s, %d words", w.told(), (alloc-heap)/8)
	}
}

// P25.2: after: at once, when the time comes, and not when a message comes ahead of it.
func TestAfter(t *testing.T) {
	plays(t, 43, 6, []scene{
		{name: "the doc's", src: actor("receive { x { stop } after 3 { out 'late; stop } }"), told: "a0"},
		{name: "at once", src: actor("receive { x { stop } after 0 { out 'late; stop } }"), told: "a0"},
		{name: "no arm", src: actor("let x = {1}; receive { after 2 { out x; stop } }"), told: "{1}"},
		{name: "no arm, at once", src: actor(sends("1", "{2}") + "receive { after 0 { receive { x { receive { y { out {x, y}; stop } } } } } }"), told: "{1,{2}}"},
		{name: "a message is there", src: actor(sends("1") + "receive { x { out x; stop } after 0 { out 'late; stop } }"), told: "1"},
		{name: "one that fits none", src: actor(sends("1", "2") + "receive { 'a { stop } after 4 { out 'late; receive { x { receive { y { out {x, y}; stop } } } } } }"), told: "a1 {1,2}"},
		{name: "one comes ahead of it", src: "actor A() { let b = spawn B(self); receive { x { out x; stop } after 2305843009213693951 { out 'late; stop } } } actor B(p) { receive { after 5 { send p, 1; stop } } } main A()", told: "1"},
		{name: "one that does not fit comes ahead, one that does too", src: "actor A() { let b = spawn B(self); receive { 2 { receive { x { out x; stop } } } after 100000 { out 'late; stop } } } actor B(p) { receive { after 5 { send p, 1; receive { after 3 { send p, 2; stop } } } } } main A()", told: "1"},
		{name: "again and again", src: "actor A(n) { receive { 'a { stop } after 1 { out n; if n < 3 { become A(n + 1) } else { stop } } } } main A(0)", told: "0 1 2 3"},
		{name: "one in the other", src: actor("receive { after 1 { out 1; receive { after 2 { out 2; receive { after 0 { out 3; stop } } } } } }"), told: "1 2 3"},
		{name: "one in an arm", src: actor(sends("1") + "receive { x { receive { y { out y; stop } after 1 { out {x}; stop } } } after 0 { stop } }"), told: "{1}"},
	})
}

// P25.2: it goes on late when its hart went round so often since it came there, and not sooner; nothing that comes in between begins that anew.
func TestRounds(t *testing.T) {
	for _, after := range []int{0, 1, 2, 3, 7, 20} {
		for _, messages := range []int{0, 1, 5} {
			src := "actor A() { " + strings.Repeat("send self, 1; ", messages) + fmt.Sprintf("receive { 'a { stop } after %d { receive { 'b { stop } after 4 { become B() } } } } } actor B() { receive { 'a { stop } after %d { out 'late; stop } } } main A()", after, after)
			w := begun(t, compiled(t, src, roomy()))
			at := map[string]int{}
			w.watch = func(hart int, label string) { at[label] = int(w.has(hart, items.Rounds)) }
			if !w.plays(bench.Script{Row: 3}, most) || w.told() != "a2" || at["p0.late"]-at["def.0"] != after || at["p1.late"]-at["p0.late"] != 4 || at["def.1"] != at["p1.late"] || at["p2.late"]-at["def.1"] != after {
				w.Fatalf("%v: %s", at, w.told())
			}
		}
	}
	// One that gets a message that does not fit in each round goes on when it is time all the same.
	w := plain(t, "actor A() { let b = spawn B(self); receive { 'a { stop } after 6 { out 'late; send b, 1; stop } } } actor B(p) { send p, 1; receive { x { stop } after 1 { become B(p) } } } main A()", api.Conf{Harts: 1, Actors: 2, Blocks: 60, Words: 8, Budget: 1})
	if w.told() != "a1" || w.count["took"] < 3 || w.count["took"] > 12 {
		w.Fatalf("%s, %v", w.told(), w.count)
	}
}

// listed tells the blocks in a record's list of messages, when all that its hart has open has performed.
func (w *telling) listed(hart int) []uint64 {
	w.Helper()
	var l []uint64
	x := w.settled(hart)
	for at := x.word(x.has(hart, items.Record) + 8*image.WSave); at != 0; at = x.word(at + 8*image.BNext) {
		if l = append(l, at); len(l) > w.i.Conf.Blocks {
			w.Fatalf("the list goes round: %d", l)
		}
	}
	return l
}

// P25.2: at took a message stands behind the record's list, the block in 10; at fit it is in the list still, the block in 24; behind that it has left it, and is free.
func TestLists(t *testing.T) {
	src := `
actor A() { let b = spawn B(self, 0); let c = spawn B(self, 0); become C(0) }
actor C(n) { if n < 8 { receive { {p, 3} { become C(n + 1) } {p, k} when k < n { become C(n + 1) } {p, 2} { become C(n + 1) } after 4 { become C(n) } } } else { out n; stop } }
actor B(p, n) { if n < 4 { send p, {self, n}; become B(p, n + 1) } else { stop } }
main A()`
	r := bench.Row(45)
	for harts := 1; harts <= 3; harts++ {
		c := roomy()
		c.Harts = harts
		i := compiled(t, src, c)
		for _, s := range bench.Scripts(&r, 8) {
			w := begun(t, i)
			var list []uint64
			w.watch = func(hart int, label string) {
				now := []uint64(nil)
				if strings.HasPrefix(label, "p0.") {
					now = w.listed(hart)
				}
				switch {
				case label == "p0.took":
					list = append(list, w.has(hart, items.First))
				case strings.HasPrefix(label, "p0.fit"):
					if at := w.has(hart, 24); !has(now, at) {
						w.Fatalf("%d is not in the list %d", at, now)
					}
				}
				if now != nil && fmt.Sprint(now) != fmt.Sprint(list) {
					w.Fatalf("%s: the list is %d, not %d", label, now, list)
				}
				if strings.HasPrefix(label, "p0.fit") {
					list = without(list, w.has(hart, 24))
				}
			}
			if !w.plays(s, most) || w.told() != "8" {
				w.Fatalf("%s", w.told())
			}
			free := 0
			for top := w.word(i.Layout.Globals+8*image.GTop) & (1<<32 - 1); top != 0; free++ {
				top = w.word(image.Block(i.Layout, int(top-1)) + 8*image.BNext)
			}
			if free != c.Blocks {
				w.Fatalf("%d blocks are free", free)
			}
		}
	}
}

func has(l []uint64, at uint64) bool { return len(without(l, at)) < len(l) }

func without(l []uint64, at uint64) []uint64 {
	var rest []uint64
	for _, x := range l {
		if x != at {
			rest = append(rest, x)
		}
	}
	return rest
}
