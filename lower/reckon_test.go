package lower_test

import (
	"fmt"
	"slices"
	"strings"
	"testing"

	"postbag/api"
	"postbag/bench"
	"postbag/lower"
	"postbag/model"
	"postbag/parse"
	"postbag/scope"
	"postbag/value"
)

// operands are values of all kinds: integers where words turn, and what is no integer.
func operands() []string {
	return []string{"0", "1", "(0 - 1)", "2", "3", "(0 - 3)", "2305843009213693951", "(0 - 2305843009213693951 - 1)", "(0 - 2305843009213693951)",
		"2305843009213693950", "1073741824", "2147483648", "4294967297", "(0 - 4294967296)", "1518500249", "511", "512",
		"'a", "'b", "'c", "self", "{1}", "{'a, {2, 3}}", "other"}
}

// signs are all of them.
func signs() []string { return []string{"+", "-", "*", "<", "=="} }

// tells tells the values of expressions, reckoned by the model for actor 0, with actor 1 in other, and x, y having values of their own.
func tells(t *testing.T, list []string, names []string, values []api.Value, atoms []string) []string {
	t.Helper()
	var l []string
	for _, src := range list {
		e, at, wrong := parse.Expr([]byte(src))
		if wrong != api.OK {
			t.Fatalf("%s: error %d at %d", src, int(wrong), at)
		}
		l = append(l, value.Text(model.Eval(e, names, values, atoms, 0)))
	}
	return l
}

// P25.2: all signs of all kinds of values: integers at both ends, what leaves them, and what is none, as numbers that are known and as variables.
func TestSigns(t *testing.T) {
	atoms := []string{"a", "b", "c"}
	other := api.Value{Kind: api.ValPid, N: 1}
	for _, a := range operands() {
		for _, sign := range signs() {
			t.Run(a+sign, func(t *testing.T) {
				t.Parallel()
				src := "actor B() { stop } actor A() { let other = spawn B(); let c = 'c; let b = 'b; let a = 'a; let x = " + a + ";"
				names := []string{"other", "x"}
				values := []api.Value{other, evaluated(t, a, other, atoms)}
				var list []string
				for k, y := range operands() {
					src += fmt.Sprintf("let y%d = %s;", k, y)
					names = append(names, fmt.Sprintf("y%d", k))
					values = append(values, evaluated(t, y, other, atoms))
					list = append(list, a+sign+y, fmt.Sprintf("x%sy%d", sign, k), "x"+sign+y, fmt.Sprintf("%s%sy%d", a, sign, k))
				}
				for _, e := range list {
					src += "out " + e + ";"
				}
				c := roomy()
				c.Words = 1024
				w := plain(t, src+"stop } main A()", c)
				want := tells(t, list, names, values, atoms)
				if w.full || len(w.outs) != len(want) {
					t.Fatalf("%d told of %d", len(w.outs), len(want))
				}
				for k := range want {
					if w.outs[k] != want[k] {
						t.Errorf("%s: %s, not %s", list[k], w.outs[k], want[k])
					}
				}
			})
		}
	}
}

// evaluated tells the value of an expression in which but other may stand.
func evaluated(t *testing.T, src string, other api.Value, atoms []string) api.Value {
	t.Helper()
	e, _, wrong := parse.Expr([]byte(src))
	if wrong != api.OK {
		t.Fatal(src)
	}
	return model.Eval(e, []string{"other"}, []api.Value{other}, atoms, 0)
}

// nested tells an expression so deep, on one side.
func nested(deep int, left bool, head, tail string) string {
	s := "x"
	for k := range deep {
		leaf := []string{"x", "y", "z", "7"}[k%4]
		sign := signs()[k%3]
		if left {
			s = head + s + sign + leaf + tail
		} else {
			s = head + leaf + sign + s + tail
		}
	}
	return s
}

// balanced tells an expression of which both sides are equally deep: the deeper, the more values are needed at a time.
func balanced(r *bench.Row, deep int, signs ...string) string {
	if deep == 0 {
		return []string{"x", "y", "z", "3", "1000003", "2305843009213693951"}[r.Next(6)]
	}
	return "(" + balanced(r, deep-1, signs...) + signs[r.Next(len(signs))] + balanced(r, deep-1, signs...) + ")"
}

// wide tells a tuple of tuples, so deep, with signs between.
func wide(r *bench.Row, deep, parts int) string {
	if deep == 0 {
		return []string{"x", "y", "z", "'a", "self", "12"}[r.Next(6)]
	}
	var l []string
	for range parts {
		l = append(l, wide(r, deep-1, parts))
	}
	if r.Next(3) == 0 {
		return "(" + l[0] + signs()[r.Next(5)] + "{" + strings.Join(l[1:], ",") + "})"
	}
	return "{" + strings.Join(l, ",") + "}"
}

// P25.2, P25.4: expressions as deep as may be, on the left and on the right, and those that need more values at a time than there are registers.
func TestDeep(t *testing.T) {
	r := bench.Row(11)
	list := []string{nested(61, true, "(", ")"), nested(61, false, "(", ")"), nested(30, true, "{", "}"), nested(30, false, "{", "}")}
	for deep := range 11 {
		list = append(list, balanced(&r, deep, signs()...), balanced(&r, deep, "+", "-", "*"), balanced(&r, deep, "+", "-"))
	}
	for range 4 { // two that need as many meet one that needs no fewer
		list = append(list, "{"+balanced(&r, 9, "+", "-", "*")+","+balanced(&r, 9, "+", "*")+","+balanced(&r, 9, "-", "*")+"}")
	}
	for range 8 {
		list = append(list, wide(&r, 4, 3), wide(&r, 3, 4))
	}
	for _, right := range []string{"{%s}", "{1, 2, 3, %s}", "{%s, x, y, z}", "{x + y, %s, z}"} {
		s := "x"
		for range 60 {
			s = fmt.Sprintf(right, s)
		}
		list = append(list, s)
	}
	c := roomy()
	c.Words = 1024
	values := []api.Value{{Kind: api.ValInt, N: 5}, {Kind: api.ValInt, N: -1 << 61}, {Kind: api.ValAtom, N: 0}}
	for k, src := range list {
		t.Run(fmt.Sprint(k), func(t *testing.T) {
			t.Parallel()
			want := tells(t, []string{src, "z"}, []string{"x", "y", "z"}, values, []string{"a"})
			w := plain(t, "actor A(x, y, z) { out "+src+"; out z; stop } main A(5, 0 - 2305843009213693951 - 1, 'a)", c)
			if !slices.Equal(w.outs, want) || w.full {
				t.Errorf("%s: %s, not %s", short(src), w.outs, want)
			}
		})
	}
}

// P25.4: whatever is reckoned together, of whatever needs, stays apart: what become gives the next round hangs on all that it had, and each of its arguments needs as many values as there may be.
func TestApart(t *testing.T) {
	r := bench.Row(12)
	for n := range 12 {
		t.Run(fmt.Sprint(n), func(t *testing.T) {
			t.Parallel()
			names := []string{"a", "b", "c", "d", "e", "f", "g", "h"}
			mix := func(deep int) string {
				s := balanced(&r, deep, [][]string{{"+", "-", "*"}, signs(), {"-", "-", "-", "=="}, {"+", "<"}}[r.Next(4)]...)
				for k, v := range []string{"x", "y", "z"} {
					s = strings.ReplaceAll(s, v, names[(r.Next(8)+k)%8])
				}
				return s
			}
			var args, outs []string
			for k := range names {
				args = append(args, mix(4+(k+n)%4))
				outs = append(outs, "out "+names[k]+";")
			}
			// From no variable in scope on to eight, and from eight to eight, and to three.
			src := "actor A() { become B(" + strings.Join(constants(&r, args), ",") + ") }" +
				"actor B(a, b, c, d, e, f, g, h) { " + strings.Join(outs, " ") + " become C(" + strings.Join(args, ", ") + ") }" +
				"actor C(h, g, f, e, d, c, b, a) { " + strings.Join(outs, " ") + " become D(h, a, b + g) }" +
				"actor D(a, b, c) { out a; out b; out c; stop } main A()"
			c := roomy()
			c.Words = 1024
			w := plain(t, src, c)
			if len(w.outs) != 19 || w.full {
				t.Errorf("%s", w.told())
			}
		})
	}
}

// constants tells expressions with numbers in the place of variables.
func constants(r *bench.Row, list []string) []string {
	var l []string
	for _, s := range list {
		for _, v := range []string{"a", "b", "c", "d", "e", "f", "g", "h"} {
			s = strings.ReplaceAll(s, v, fmt.Sprint(r.Next(1<<30)))
		}
		l = append(l, s)
	}
	return l
}

// P25.1, P25.4: the code uses no slot beyond Slots, and the last one of them, if what is reckoned needs more than there are registers.
func TestSlotsUsed(t *testing.T) {
	r := bench.Row(13)
	more := 0
	for deep := 4; deep <= 10; deep++ {
		src := "actor A(x, y, z) { out " + balanced(&r, deep, "+", "*") + "; stop } main A(1, 2, 3)"
		p, _, _ := parse.Program([]byte(src))
		atoms := scope.Atoms(p)
		n := lower.Slots(p, atoms)
		if used := usedSlots(lower.Items(p, atoms)); used != n {
			t.Errorf("%d deep: %d slots, %d used", deep, n, used)
		}
		more += n - 3
	}
	if more == 0 {
		t.Error("all have registers")
	}
}
