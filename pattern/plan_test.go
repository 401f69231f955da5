package pattern_test

import (
	"fmt"
	"math"
	"slices"
	"testing"

	"postbag/api"
	"postbag/pattern"
)

// P17.2: nodes, and each pattern's first one.
func TestPlan(t *testing.T) {
	for _, x := range []struct {
		srcs          []string
		nodes, firsts string
	}{
		{nil, "=-2", "[]"},
		{[]string{"_"}, "=0 =-2", "[0]"},
		{[]string{"x", "_", "y"}, "=0 =1 =2 =-2", "[0 1 2]"},
		{[]string{"3"}, "/i3?1:2 =0 =-2", "[0]"},
		{[]string{"3", "4"}, "/i3?1:2 =0 /i4?3:4 =1 =-2", "[0 2]"},
		{[]string{"{'a, x, 3}"}, "/t3?1:4 0/a0?2:4 2/i3?3:4 =0 =-2", "[0]"},
		// One test that two patterns have: who has it is passed over, by that test alone.
		{[]string{"3", "3"}, "/i3?1:4 =0 /i3?3:4 =1 =-2", "[0 2]"},
		{[]string{"3", "3", "_"}, "/i3?1:4 =0 /i3?3:4 =1 =2 =-2", "[0 2 4]"},
		{[]string{"{1}", "{2}", "5"}, "/t1?1:6 0/i1?2:3 =0 /t1?4:6 0/i2?5:6 =1 /i5?7:8 =2 =-2", "[0 3 6]"},
		{[]string{"{1, 2}", "{1, 3}", "{2, 3}", "x"}, "/t2?1:12 0/i1?2:8 1/i2?3:4 =0 /t2?5:12 0/i1?6:8 1/i3?7:12 =1 /t2?9:12 0/i2?10:12 1/i3?11:12 =2 =3 =-2", "[0 4 8 12]"},
		// Who lacks it is gone to, even if one behind it has the test again.
		{[]string{"3", "4", "3"}, "/i3?1:2 =0 /i4?3:4 =1 /i3?5:6 =2 =-2", "[0 2 4]"},
		{[]string{"3", "_", "3"}, "/i3?1:2 =0 =1 /i3?4:5 =2 =-2", "[0 2 3]"},
		// Tests that differ in Path, in Kind, in N alone.
		{[]string{"{1, _}", "{_, 1}"}, "/t2?1:6 0/i1?2:3 =0 /t2?4:6 1/i1?5:6 =1 =-2", "[0 3]"},
		{[]string{"{{1}}", "{1}"}, "/t1?1:7 0/t1?2:4 0.0/i1?3:4 =0 /t1?5:7 0/i1?6:7 =1 =-2", "[0 4]"},
		{[]string{"0", "'a"}, "/i0?1:2 =0 /a0?3:4 =1 =-2", "[0 2]"},
		{[]string{"1", "{_}"}, "/i1?1:2 =0 /t1?3:4 =1 =-2", "[0 2]"},
		{[]string{"{_}", "{_, _}"}, "/t1?1:2 =0 /t2?3:4 =1 =-2", "[0 2]"},
		{[]string{"'a", "'b", "'b"}, "/a0?1:2 =0 /a3?3:6 =1 /a3?5:6 =2 =-2", "[0 2 4]"},
		// Atoms that are not there are asked for by one test.
		{[]string{"'d", "'e", "'a"}, "/a-1?1:4 =0 /a-1?3:4 =1 /a0?5:6 =2 =-2", "[0 2 4]"},
	} {
		nodes, firsts := pattern.Plan(allLaid(t, x.srcs...), atoms())
		if s, f := told(nodes, noded), fmt.Sprint(firsts); s != x.nodes || f != x.firsts {
			t.Errorf("%v: %s %s, not %s %s", x.srcs, s, f, x.nodes, x.firsts)
		}
	}
}

// P17.2: paths and numbers that would be one if they were run together, and patterns of any shape.
func TestPlanOdd(t *testing.T) {
	far := slices.Repeat([]api.Pattern{{}}, 12)
	a, b := slices.Clone(far), slices.Clone(far)
	a[11], b[1] = whole(5), group(variable("x"), whole(5)) // at 11, and at 1 and 1
	nodes, firsts := pattern.Plan([]api.Pattern{group(a...), group(b...)}, nil)
	if s := told(nodes, noded) + fmt.Sprint(firsts); s != "/t12?1:7 11/i5?2:3 =0 /t12?4:7 1/t2?5:7 1.1/i5?6:7 =1 =-2[0 3]" {
		t.Error(s)
	}
	odd := []api.Pattern{{}, {Kind: -1}, {Kind: 6, Args: a}, {Kind: api.PatAny, Args: a}, group(), group(), whole(math.MinInt)}
	nodes, firsts = pattern.Plan(odd, nil)
	if s := told(nodes, noded) + fmt.Sprint(firsts); s != "=0 =1 =2 =3 /t0?5:8 =4 /t0?7:8 =5 /i-9223372036854775808?9:10 =6 =-2[0 1 2 3 4 6 8]" {
		t.Error(s)
	}
}

// P17.2: thrown patterns, held against a plain second telling.
func TestPlanPlainly(t *testing.T) {
	r := row(3)
	over := 0
	for range 3000 {
		l := some(&r, 0, 7, func() api.Pattern { return one(&r, r.odd(2), r.pattern(2), r.pattern(2)) })
		nodes, firsts := pattern.Plan(l, atoms())
		want, first := plainPlan(l, atoms())
		if s, w := told(nodes, noded), told(want, noded); s != w || fmt.Sprint(firsts) != fmt.Sprint(first) {
			t.Fatalf("%+v: %s %v, not %s %v", l, s, firsts, w, first)
		}
		for k, first := range firsts {
			for i := first; nodes[i].Arm == -1; i++ {
				if k+1 < len(l) && nodes[i].No != firsts[k+1] {
					over++
				}
			}
		}
	}
	if over < 300 {
		t.Errorf("but %d tests pass a pattern over", over)
	}
}

// P17.2: very many patterns that have tests in common.
func TestPlanMany(t *testing.T) {
	const many = 20000
	names := make([]string, many)
	l := make([]api.Pattern, many)
	for k := range l {
		names[k] = fmt.Sprint("n", k)
		l[k] = group(named("n0"), named(names[k]), whole(k/2))
	}
	nodes, firsts := pattern.Plan(l, names)
	if len(nodes) != 5*many+1 || len(firsts) != many {
		t.Fatal(len(nodes), len(firsts))
	}
	for _, i := range []int{0, 1, 5*many - 5, 5*many - 4} {
		if nodes[i].No != 5*many {
			t.Errorf("node %d goes to %d", i, nodes[i].No)
		}
	}
	if nodes[2].No != firsts[1] || nodes[3].No != firsts[2] {
		t.Error(nodes[2].No, nodes[3].No)
	}
	if k := pattern.Go(nodes, 0, tuple(atom(0), atom(many-1), integer((many-1)/2))); k != many-1 {
		t.Error(k)
	}
}

// ask is a node that asks whether the value is an integer.
func ask(n, yes, no int) pattern.Node {
	return pattern.Node{Test: pattern.Test{Kind: api.PatInt, N: n}, Yes: yes, No: no, Arm: -1}
}

// P17.2: the leaf that is come to, from each first node, and from one in between.
func TestGo(t *testing.T) {
	l := allLaid(t, "{'a, x}", "{'b, {y, z}}", "3", "{'a, 4}", "_")
	nodes, firsts := pattern.Plan(l, atoms())
	for _, x := range []struct {
		v    api.Value
		want []int // from each pattern's first node
	}{
		{tuple(atom(0), integer(4)), []int{0, 3, 3, 3, 4}},
		{tuple(atom(0), integer(5)), []int{0, 4, 4, 4, 4}},
		{tuple(atom(3), tuple(integer(1), integer(2))), []int{1, 1, 4, 4, 4}},
		{tuple(atom(1), tuple(integer(1), integer(2))), []int{4, 4, 4, 4, 4}},
		{tuple(atom(3), tuple(integer(1))), []int{4, 4, 4, 4, 4}},
		{integer(3), []int{2, 2, 2, 4, 4}},
		{integer(4), []int{4, 4, 4, 4, 4}},
		{api.Value{}, []int{4, 4, 4, 4, 4}},
	} {
		for k, first := range firsts {
			if arm := pattern.Go(nodes, first, x.v); arm != x.want[k] {
				t.Errorf("%+v from pattern %d: %d, not %d", x.v, k, arm, x.want[k])
			}
		}
		if arm := pattern.Go(nodes, len(nodes)-1, x.v); arm != -2 {
			t.Errorf("from the last leaf: %d", arm)
		}
	}
	if arm := pattern.Go(nodes, firsts[0]+1, tuple(atom(0))); arm != 0 { // behind the test for two parts
		t.Errorf("from a node in between: %d", arm)
	}
}

// P17.2: what is no node, nodes that go round, and as many steps as nodes.
func TestGoOdd(t *testing.T) {
	v := integer(1)
	leaf := func(arm int) pattern.Node { return pattern.Node{Arm: arm} }
	chain := make([]pattern.Node, 100)
	for i := range chain {
		chain[i] = ask(1, i-1, -1)
	}
	chain[0] = leaf(7)
	round := slices.Clone(chain)
	round[0] = ask(1, 99, 99)
	for what, x := range map[string]struct {
		nodes []pattern.Node
		from  int
		want  int
	}{
		"no nodes":                       {nil, 0, -2},
		"from below":                     {[]pattern.Node{leaf(5)}, -1, -2},
		"from the least number":          {[]pattern.Node{leaf(5)}, math.MinInt, -2},
		"from one beyond":                {[]pattern.Node{leaf(5)}, 1, -2},
		"from the greatest number":       {[]pattern.Node{leaf(5)}, math.MaxInt, -2},
		"a leaf":                         {[]pattern.Node{leaf(5)}, 0, 5},
		"a leaf of no pattern":           {[]pattern.Node{leaf(-2)}, 0, -2},
		"a leaf of another number":       {[]pattern.Node{leaf(-3)}, 0, -3},
		"a leaf, whatever else it has":   {[]pattern.Node{ask(2, 1, 1), {Test: pattern.Test{Kind: api.PatInt, N: 1}, Yes: 0, No: 0, Arm: 4}}, 0, 4},
		"Yes":                            {[]pattern.Node{ask(1, 1, 2), leaf(5), leaf(6)}, 0, 5},
		"No":                             {[]pattern.Node{ask(2, 1, 2), leaf(5), leaf(6)}, 0, 6},
		"Yes below":                      {[]pattern.Node{ask(1, -1, 1), leaf(5)}, 0, -2},
		"Yes beyond":                     {[]pattern.Node{ask(1, 2, 1), leaf(5)}, 0, -2},
		"No below":                       {[]pattern.Node{ask(2, 1, -1), leaf(5)}, 0, -2},
		"No beyond":                      {[]pattern.Node{ask(2, 1, 2), leaf(5)}, 0, -2},
		"the least No":                   {[]pattern.Node{ask(2, 1, math.MinInt), leaf(5)}, 0, -2},
		"the greatest Yes":               {[]pattern.Node{ask(1, math.MaxInt, 1), leaf(5)}, 0, -2},
		"Yes is no node, but No is told": {[]pattern.Node{ask(2, 9, 1), leaf(5)}, 0, 5},
		"an empty test goes to No":       {[]pattern.Node{{Yes: 1, No: 2, Arm: -1}, leaf(5), leaf(6)}, 0, 6},
		"round by itself":                {[]pattern.Node{ask(1, 0, 1), leaf(5)}, 0, -2},
		"round by itself, by No":         {[]pattern.Node{{Arm: -1}}, 0, -2},
		"round by two":                   {[]pattern.Node{ask(1, 1, 2), ask(2, 2, 0), leaf(5)}, 0, -2},
		"round by all":                   {round, 99, -2},
		"round, from in between":         {round, 50, -2},
		"as many steps as nodes":         {chain, 99, 7},
		"one step":                       {chain, 0, 7},
	} {
		if arm := pattern.Go(x.nodes, x.from, v); arm != x.want {
			t.Errorf("%s: %d, not %d", what, arm, x.want)
		}
	}
}
