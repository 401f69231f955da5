package lower_test

import (
	"fmt"
	"regexp"
	"slices"
	"strings"
	"testing"

	"postbag/api"
	"postbag/bench"
	"postbag/image"
	"postbag/items"
	"postbag/lower"
	"postbag/parse"
	"postbag/scope"
	"postbag/thrown"
	"postbag/tree"
	"postbag/value"
)

// usedSlots tells how many slots code loads from and stores to.
func usedSlots(l []api.Item) int {
	used := 0
	for _, i := range l {
		if (i.Inst.Op == api.OpLd || i.Inst.Op == api.OpSd) && i.Inst.Rs1 == items.Record {
			used = max(used, i.Inst.Imm/8-image.WSlots+1)
		}
	}
	return used
}

// lowered tells the slots and the items of a program's text.
func lowered(t *testing.T, src string) (int, []api.Item) {
	t.Helper()
	p, at, e := parse.Program([]byte(src))
	if e == api.OK {
		at, e = scope.Check(p)
	}
	if e != api.OK {
		t.Fatalf("%s: error %d at %d", src, int(e), at)
	}
	return lower.Slots(p, scope.Atoms(p)), lower.Items(p, scope.Atoms(p))
}

// P25.1: how many slots there are: of the Params and of what is bound later, each behind all in scope; 1 at least.
func TestSlots(t *testing.T) {
	for src, want := range map[string]int{
		"actor A() { stop } main A()":                                                                          1,
		"actor A() { out 1; stop } main A()":                                                                   1,
		"actor A(x) { stop } main A(1)":                                                                        1,
		"actor A(x, y) { stop } main A(1, 2)":                                                                  2,
		"actor A(a, b, c, d, e, f, g, h) { stop } main A(1, 2, 3, 4, 5, 6, 7, 8)":                              8,
		"actor A(x) { let y = x; let z = y; stop } main A(1)":                                                  3,
		"actor A() { let y = spawn A(); stop } main A()":                                                       1,
		"actor A() { stop } actor B(x, y) { stop } main A()":                                                   2,
		"actor B(x, y) { stop } actor A() { let z = 1; stop } main A()":                                        2,
		"actor A() { if 1 { let x = 1; let y = 2; stop } else { let x = 1; stop } } main A()":                  2,
		"actor A(a) { receive { {x, {y, _}} { let z = y; stop } x { stop } } } main A(1)":                      4,
		"actor A(a) { receive { {x, {y, _}} when x < y { stop } x { stop } } } main A(1)":                      3,
		"actor A(a) { receive { _ { stop } 3 { stop } } } main A(1)":                                           1,
		"actor A(a) { receive { _ { stop } after 1 { let x = a; stop } } } main A(1)":                          2,
		"actor A(a, b) { become B(b) } actor B(x) { stop } main A(1, 2)":                                       2,
		"actor A() { become B(1, 2, 3) } actor B(x, y, z) { stop } main A()":                                   3,
		"actor A() { let x = 1; let y = x; let z = y; become B(z) } actor B(x) { become A() } main A()":        3,
		"actor A() { let p = spawn B(1, 2, 3, 4); send p, p; stop } actor B(a, b, c, d) { stop } main A()":     4,
		"actor A() { out {1, {2, {3, {4, {5, {6, {7, {8, {9, {10, {11, {12, {13}}}}}}}}}}}}}; stop } main A()": 1,
	} {
		if n, l := lowered(t, src); n != want || usedSlots(l) > n {
			t.Errorf("%s: %d, not %d, and %d are used", src, n, want, usedSlots(l))
		}
	}
	r := bench.Row(31)
	for range 300 {
		p := thrown.Program(&r, thrown.Style{Rounds: 3, Spawns: 1, Deep: 3})
		n := lower.Slots(p, scope.Atoms(p))
		want := 1
		for _, d := range p.Defs {
			want = max(want, len(d.Params)+bound(d.Body))
		}
		if n < want || n > want+20 {
			t.Errorf("%s: %d slots, %d variables", tree.Print(p), n, want)
		}
	}
}

// bound tells how many variables of a body are in scope at a time, at most.
func bound(b api.Body) int {
	own := 0
	for _, s := range b.Stmts {
		if s.Kind == api.StmtLet || s.Kind == api.StmtSpawn {
			own++
		}
	}
	inner := 0
	for _, x := range b.Parts {
		inner = max(inner, bound(x))
	}
	for _, a := range b.Arms {
		inner = max(inner, variables(a.Pattern)+bound(a.Body))
	}
	return own + inner
}

func variables(p api.Pattern) int {
	n := 0
	if p.Kind == api.PatVar {
		n = 1
	}
	for _, q := range p.Args {
		n += variables(q)
	}
	return n
}

// labels tells the labels of items, in order.
func labels(l []api.Item) []string {
	var names []string
	for _, i := range l {
		if i.Kind == api.ItemLabel {
			names = append(names, i.Name)
		}
	}
	return names
}

// P25.2: the labels: main, one of each Def, and of each receive, with a number of its own, took, one of each Arm, and late, if it is.
func TestLabels(t *testing.T) {
	_, l := lowered(t, `
actor A() { receive { 1 { stop } 2 { receive { x { stop } } } _ { stop } after 3 { receive { after 0 { stop } } } } }
actor B() { if 1 { receive { 'a { stop } } } else { receive { {x, y} when x < y { stop } {x} { stop } } } }
actor C() { stop }
main A()`)
	names := labels(l)
	form := regexp.MustCompile(`^p(\d+)\.(took|late|fit(\d+))$`)
	defs := 0
	receives := map[string][]string{}
	for _, name := range names {
		if strings.HasPrefix(name, "def.") {
			if name != fmt.Sprintf("def.%d", defs) {
				t.Errorf("%s is the %d-th", name, defs)
			}
			defs++
		}
		if m := form.FindStringSubmatch(name); m != nil {
			receives[m[1]] = append(receives[m[1]], m[2])
		}
	}
	var all []string
	for _, parts := range receives {
		slices.Sort(parts)
		all = append(all, strings.Join(parts, " "))
	}
	slices.Sort(all)
	if want := []string{"fit0 fit1 fit2 late took", "fit0 fit1 took", "fit0 took", "fit0 took", "late took"}; !slices.Equal(all, want) {
		t.Errorf("%q", all)
	}
	if defs != 3 || !slices.Contains(names, "main") {
		t.Errorf("%q", names)
	}
	slices.Sort(names)
	if len(slices.Compact(names)) != len(names) {
		t.Errorf("a label is there twice: %q", names)
	}
}

// settled is the telling when all that a hart has open has performed.
func (w *telling) settled(hart int) *telling {
	w.Helper()
	x := *w
	x.x = w.x.Clone()
	for x.x.Open(hart) > 0 {
		if !bench.Step(x.x, hart, x.x.PC(hart)) {
			w.Fatalf("hart %d does not go on", hart)
		}
	}
	return &x
}

// P25.2: at a Def's label the first slots have its Params' words, whoever made the actor, or whatever became one.
func TestParams(t *testing.T) {
	src := `
actor A(n, x, y) { out {n, x, y}; if n < 3 { let z = {x, y}; let w = x; become A(n + 1, z, w) } else { let p = spawn B(n, self); become B(y, x) } }
actor B(x, y) { out {x, y}; if x == 3 { become C(x, {y}, {{x}}, 'b, 5, x - 4, y, y == self) } else { stop } }
actor C(a, b, c, d, e, f, g, h) { out {a, b, c, d}; out {e, f, g, h}; become D() }
actor D() { stop }
main A(0, {1, 'a}, self)`
	r := bench.Row(33)
	for harts := 1; harts <= 4; harts++ {
		c := roomy()
		c.Harts = harts
		i := compiled(t, src, c)
		for _, s := range bench.Scripts(&r, 8) {
			w := begun(t, i)
			var want []string
			w.watch = func(hart int, label string) {
				for k, d := range i.Program.Defs {
					if label != fmt.Sprintf("def.%d", k) {
						continue
					}
					x := w.settled(hart)
					for part := range slices.Chunk(x.words(x.has(hart, items.Record)+8*image.WSlots, len(d.Params)), api.MaxTuple) {
						var l []string
						for _, v := range part {
							l = append(l, x.text(v))
						}
						want = append(want, "{"+strings.Join(l, ",")+"}")
					}
				}
			}
			if !w.plays(s, most) || w.full {
				w.Fatalf("%s", w.told())
			}
			got := slices.Sorted(slices.Values(w.outs))
			slices.Sort(want)
			if len(want) != 8 || !slices.Equal(got, want) {
				w.Fatalf("%q, not %q", got, want)
			}
		}
	}
}

// text tells the value of a word, of records and blocks.
func (w *telling) text(word uint64) string {
	w.Helper()
	l := w.i.Layout
	v, e := value.Decode(word, w.words(l.Actors, int(l.End-l.Actors)/8), l.Actors)
	if e != api.OK {
		w.Fatalf("%x: error %d", word, int(e))
	}
	return value.Text(v)
}
