package compile_test

import (
	"fmt"
	"reflect"
	"slices"
	"strings"
	"testing"

	"postbag/api"
	"postbag/bench"
	"postbag/code"
	"postbag/compile"
	"postbag/image"
	"postbag/inst"
	"postbag/lower"
	"postbag/parse"
	"postbag/sched"
	"postbag/scope"
	"postbag/thrown"
	"postbag/tree"
)

func conf() api.Conf { return api.Conf{Harts: 2, Actors: 4, Blocks: 6, Words: 64, Budget: 2} }

// anyConf tells a config that may be.
func anyConf(r *bench.Row) api.Conf {
	return api.Conf{Harts: 1 + r.Next(8), Actors: 1 + r.Next(64), Blocks: 1 + r.Next(256), Words: 8 + r.Next(1017), Budget: 1 + r.Next(1000)}
}

// source tells a thrown program's text.
func source(r *bench.Row) string {
	return tree.Print(thrown.Program(r, thrown.Style{Rounds: 1 + r.Next(4), Spawns: r.Next(2), Deep: 1 + r.Next(4), Alone: r.Next(4) == 0}))
}

// none tells whether nothing is in an image.
func none(i compile.Image) bool {
	return reflect.DeepEqual(i, compile.Image{})
}

// lets tells statements that bind so many variables.
func lets(n int) string {
	var b strings.Builder
	for k := range n {
		fmt.Fprintf(&b, "let v%d = %d; ", k, k)
	}
	return b.String()
}

// balanced tells a sum of which both sides are equally deep: the deeper, the more values are needed at a time.
func balanced(deep int) string {
	if deep == 0 {
		return "v0"
	}
	return "(" + balanced(deep-1) + "+" + balanced(deep-1) + ")"
}

// P26.1: errors, with their places, in their order.
func TestErrors(t *testing.T) {
	good := "actor A() { stop } main A()"
	bad := api.Conf{}
	many := "actor A() { " + lets(241) + "stop } "
	for _, x := range []struct {
		what, src string
		c         api.Conf
		at        int
		e         api.Errno
	}{
		{"a program", good, conf(), 0, api.OK},
		{"no config", good, bad, 0, api.ErrArg},
		{"no config, no word", "?", bad, 0, api.ErrArg},
		{"no config, no program", "actor", bad, 0, api.ErrArg},
		{"no config, no name", "actor A() { stop } main B()", bad, 0, api.ErrArg},
		{"no config, no room", many + "main A()", bad, 0, api.ErrArg},
		{"no byte", "", conf(), 0, api.ErrSyntax},
		{"one word", "actor", conf(), 5, api.ErrSyntax},
		{"another word", "stop", conf(), 0, api.ErrSyntax},
		{"no word", "actor A() ?", conf(), 10, api.ErrLex},
		{"no word behind what is no program", "actor actor ?", conf(), 12, api.ErrLex},
		{"no word, no name", "actor A() { out x; stop } main A() ?", conf(), 35, api.ErrLex},
		{"the doc's word", "actor A() { out ?; stop }", conf(), 16, api.ErrLex},
		{"no program", "actor A( { stop } main A()", conf(), 9, api.ErrSyntax},
		{"no program, no name", "actor A() { out x; stop } main A(", conf(), 33, api.ErrSyntax},
		{"a program and more", good + " main", conf(), 28, api.ErrSyntax},
		{"too deep", "actor A() { out " + strings.Repeat("{", 62) + strings.Repeat("1 + ", 3) + "1" + strings.Repeat("}", 62) + "; stop } main A()", conf(), 0, api.ErrSyntax},
		{"too great", "actor A() { " + strings.Repeat("out 1;", 2100) + " stop } main A()", conf(), 0, api.ErrSyntax},
		{"too long", good + strings.Repeat(" ", 65537), conf(), 65536, api.ErrLex},
		{"the doc's name", "actor A() { out x; stop } main A()", conf(), 16, api.ErrName},
		{"no such Def", "actor A() { stop } main B()", conf(), 24, api.ErrName},
		{"too few arguments", "actor A(x) { stop } main A()", conf(), 25, api.ErrArity},
		{"a Def twice", "actor A() { stop } actor A() { stop } main A()", conf(), 19, api.ErrTwice},
		{"a name twice", "actor A() { let x = 1; let x = 2; stop } main A()", conf(), 23, api.ErrTwice},
		{"no name, no room", many + "main B()", conf(), strings.Index(many+"main B()", "B()"), api.ErrName},
		{"no room", many + "main A()", conf(), 0, api.ErrImage},
	} {
		i, at, e := compile.Program([]byte(x.src), x.c)
		if at != x.at || e != x.e || none(i) != (e != api.OK) {
			t.Errorf("%s: %d, error %d, not %d, %d", x.what, at, int(e), x.at, int(x.e))
		}
	}
	if i, at, e := compile.Program(nil, conf()); at != 0 || e != api.ErrSyntax || !none(i) {
		t.Error(at, int(e))
	}
}

// P26.1: configs at the ends of what may be, and one beyond.
func TestConfigs(t *testing.T) {
	most := api.Conf{Harts: 8, Actors: 64, Blocks: 256, Words: 1024, Budget: 1000}
	least := api.Conf{Harts: 1, Actors: 1, Blocks: 1, Words: 8, Budget: 1}
	field := func(c *api.Conf, k int) *int {
		return []*int{&c.Harts, &c.Actors, &c.Blocks, &c.Words, &c.Budget}[k]
	}
	ask := func(c api.Conf, want api.Errno) {
		t.Helper()
		i, at, e := compile.Program([]byte("actor A(x) { out x; stop } main A({1, 'a})"), c)
		if at != 0 || e != want || none(i) != (e != api.OK) || e == api.OK && i.Conf != c {
			t.Errorf("%+v: %d, error %d, not %d", c, at, int(e), int(want))
		}
	}
	ask(most, api.OK)
	ask(least, api.OK)
	for k := range 5 {
		c, d := most, least
		*field(&c, k)++
		*field(&d, k)--
		ask(c, api.ErrArg)
		ask(d, api.ErrArg)
		*field(&c, k), *field(&d, k) = 1<<62, -1<<62
		ask(c, api.ErrArg)
		ask(d, api.ErrArg)
	}
}

// P26.1: 240 slots are not too many, 241 are, of whatever they are: variables of all kinds, and what is reckoned in between.
func TestSlots(t *testing.T) {
	sum := balanced(10)
	p, _, e := parse.Program([]byte("actor A() { let v0 = 1; out " + sum + "; stop } main A()"))
	if e != api.OK {
		t.Fatal(int(e))
	}
	spare := lower.Slots(p, nil) - 1
	if spare < 1 {
		t.Fatal("no slot is needed in between")
	}
	for what, src := range map[string]string{
		"let":               "actor A() { " + lets(239) + "%s stop } main A()",
		"let, at the end":   "actor A() { " + lets(239) + "if 1 { %s stop } else { stop } } main A()",
		"spawn":             "actor A() { " + lets(238) + "let p = spawn A(); %s stop } main A()",
		"a pattern":         "actor A() { " + lets(237) + "receive { {x, {y, _}} { %s stop } } } main A()",
		"a guard":           "actor A() { " + lets(237) + "receive { {x, y} when x < y { %s stop } } } main A()",
		"params":            "actor A(a, b, c, d, e, f, g, h) { " + lets(231) + "%s stop } main A(1, 2, 3, 4, 5, 6, 7, 8)",
		"another Def":       "actor B(a) { " + lets(238) + "%s stop } actor A() { stop } main A()",
		"more, not at once": "actor A() { " + lets(200) + "if 1 { let a = 1; let b = 2; stop } else { " + strings.ReplaceAll(lets(39), "v", "w") + "%s stop } } main A()",
		"sums":              "actor A() { " + lets(239-spare) + "%s out " + sum + "; stop } main A()",
	} {
		for more := range 4 {
			var l []string
			for k := range more {
				l = append(l, fmt.Sprintf("let more%d = v0; ", k))
			}
			want := api.OK
			if more > 1 {
				want = api.ErrImage
			}
			i, at, e := compile.Program([]byte(fmt.Sprintf(src, strings.Join(l, ""))), conf())
			if at != 0 || e != want || e == api.OK && i.Layout.Slots != 239+more {
				t.Errorf("%s, %d more: %d, error %d, %d slots", what, more, at, int(e), i.Layout.Slots)
			}
		}
	}
}

// held holds an image against what it is made of.
func held(t *testing.T, src string, c api.Conf, i compile.Image) {
	t.Helper()
	p, _, _ := parse.Program([]byte(src))
	atoms := scope.Atoms(p)
	slots := max(1, lower.Slots(p, atoms))
	l, e := image.Lay(c, len(i.Words), slots)
	if e != api.OK || l != i.Layout || i.Conf != c || !reflect.DeepEqual(i.Program, p) || !slices.Equal(i.Atoms, atoms) {
		t.Fatalf("%s: %+v, error %d, not %+v", src, i.Layout, int(e), l)
	}
	words, labels, e := code.Assemble(append(sched.Items(c, l), lower.Items(p, atoms)...), 0)
	if e != api.OK || len(words) > len(i.Words) || !slices.Equal(words, i.Words[:len(words)]) || !slices.Equal(labels, i.Labels) {
		t.Fatalf("%s: error %d, %d words, %d", src, int(e), len(words), len(i.Words))
	}
	if slices.ContainsFunc(i.Words[len(words):], func(w uint32) bool { return w != 0 }) {
		t.Fatalf("%s: words behind the code", src)
	}
	if _, e := image.Build(c, i.Layout, i.Words); e != api.OK {
		t.Fatalf("%s: Build: error %d", src, int(e))
	}
	sound(t, src, i, len(words))
}

// sound holds the words of an image's code against what instructions may be.
func sound(t *testing.T, src string, i compile.Image, end int) {
	t.Helper()
	for n, w := range i.Words[:end] {
		x, e := inst.Decode(w)
		if e != api.OK {
			t.Fatalf("%s: word %d is no instruction's", src, n)
		}
		branch := x.Op >= api.OpBeq && x.Op <= api.OpBgeu
		if to := 4*n + x.Imm; (branch || x.Op == api.OpJal) && (to < 0 || to >= 4*end || to%4 != 0) {
			t.Fatalf("%s: word %d goes to %d", src, n, to)
		}
	}
	for _, l := range i.Labels {
		if l.At >= uint64(4*end) || l.At%4 != 0 {
			t.Fatalf("%s: %s at %d", src, l.Name, l.At)
		}
	}
}

// P26.1, P26.5: what an image has, of thrown programs and configs, and of programs as great as may be: all words of its code are instructions, each branch and jump goes to one.
func TestImage(t *testing.T) {
	r := bench.Row(1)
	var list []string
	for range 60 {
		list = append(list, source(&r))
	}
	list = append(list,
		"actor A() { stop } main A()",
		"actor A() { "+lets(240)+"stop } main A()",
		"actor A(x) { "+strings.Repeat("out x * x == x - 2305843009213693951; ", 450)+"stop } main A(1)",
		"actor A(x) { if x { "+strings.Repeat("out {x, {x}}; ", 480)+"stop } else { "+strings.Repeat("out x < 3; ", 380)+"become A(x) } } main A(1)",
		"actor A(x) { receive { "+strings.Repeat("{x1, {2, 'a}, 3} when x1 < x { become A(x1) } ", 290)+"after 2305843009213693951 { stop } } } main A(1)",
		"actor A(x) { "+strings.Repeat("if x { stop } else { ", 60)+strings.Repeat("out x; ", 100)+"stop"+strings.Repeat(" }", 60)+" } main A(1)")
	for _, src := range list {
		for _, c := range []api.Conf{conf(), anyConf(&r), anyConf(&r)} {
			i, at, e := compile.Program([]byte(src), c)
			if e != api.OK {
				t.Fatalf("%.300s: error %d at %d", src, int(e), at)
			}
			held(t, src, c, i)
		}
	}
}

// nested tells a body in which others stand: so many ifs, on both sides, and then receives, each in the late part of another one.
func nested(ifs, receives int) string {
	if ifs > 0 {
		s := nested(ifs-1, receives)
		return "{if 0" + s + "else" + s + "}"
	}
	return strings.Repeat("{receive{after 0", receives) + "{stop}" + strings.Repeat("}}", receives)
}

// P26.4: no program of the grammar has more code than there is room for, also where nearly all of its text is what has most code.
func TestGreatCode(t *testing.T) {
	deep := strings.Repeat("{", 15) + "_" + strings.Repeat("}", 15) + "{stop}"
	for what, body := range map[string]string{
		"receives":              "{if 0" + nested(5, 55) + "else" + nested(5, 53) + "}",
		"receives and patterns": "{if 0" + nested(5, 52) + "else{if 0" + nested(5, 50) + "else{receive{" + strings.Repeat(deep, 30) + "}}}}",
		"patterns":              "{receive{" + strings.Repeat(deep, 226) + "}}",
		"products":              "{out x" + strings.Repeat(";out x*x*x*x*x*x", 330) + ";stop}",
		"numbers":               "{out x" + strings.Repeat(";out{2305843009213693951}", 1300) + ";stop}",
	} {
		src := "actor A(x)" + body + "main A(0)"
		i, at, e := compile.Program([]byte(src), conf())
		if e != api.OK || len(i.Words) < 10000 {
			t.Fatalf("%s: %d bytes, error %d at %d, %d words", what, len(src), int(e), at, len(i.Words))
		}
		held(t, src, i.Conf, i)
	}
}

// P26.1, W6: the same text and config give the same image; so does the text of its tree, but for places; and blanks and comments change nothing but these.
func TestAgain(t *testing.T) {
	r := bench.Row(2)
	for range 60 {
		src, c := source(&r), anyConf(&r)
		i, _, e := compile.Program([]byte(src), c)
		j, _, _ := compile.Program([]byte(src), c)
		if e != api.OK || !reflect.DeepEqual(i, j) {
			t.Fatalf("%s: error %d", src, int(e))
		}
		for _, other := range []string{tree.Print(i.Program), "# more\n\t" + strings.ReplaceAll(src, " ", " \r\n#x\n ")} {
			j, _, e := compile.Program([]byte(other), c)
			if e != api.OK || !tree.Same(i.Program, j.Program) {
				t.Fatalf("%s: error %d", src, int(e))
			}
			j.Program = i.Program
			if !reflect.DeepEqual(i, j) {
				t.Fatalf("%s: another image", src)
			}
		}
	}
}

// P26.2: addresses of labels.
func TestAt(t *testing.T) {
	i, _, _ := compile.Program([]byte("actor A() { receive { 1 { stop } after 1 { stop } } } actor B() { stop } main A()"), conf())
	if at, ok := compile.At(i, "boot"); at != 0 || !ok {
		t.Error(at, ok)
	}
	for _, l := range i.Labels {
		if at, ok := compile.At(i, l.Name); at != l.At || !ok {
			t.Errorf("%s: %d, %t, not %d", l.Name, at, ok, l.At)
		}
	}
	for _, name := range []string{"main", "sched", "stop", "push", "collect", "def.0", "def.1", "p0.took", "p0.fit0", "p0.late"} {
		if at, ok := compile.At(i, name); at == 0 || !ok {
			t.Errorf("%s: %d, %t", name, at, ok)
		}
	}
	for _, name := range []string{"", "def.2", "def", "def.", "p0.fit1", "p1.took", "Boot", "boot ", "nothing"} {
		if at, ok := compile.At(i, name); at != 0 || ok {
			t.Errorf("%s: %d, %t", name, at, ok)
		}
	}
	if at, ok := compile.At(compile.Image{}, "boot"); at != 0 || ok {
		t.Error("no image")
	}
	if at, ok := compile.At(compile.Image{Labels: []api.Label{{Name: "a", At: 8}, {Name: "", At: 4}, {Name: "a", At: 12}}[:2]}, ""); at != 4 || !ok {
		t.Error("an image of labels alone", at, ok)
	}
	if at, ok := compile.At(compile.Image{Labels: []api.Label{{Name: "a", At: 8}, {Name: "a", At: 12}}}, "a"); at != 8 || !ok {
		t.Error("a label twice", at, ok)
	}
}

// just holds a call against the layers that say whether there is an image.
func just(t *testing.T, src []byte) bool {
	t.Helper()
	before := slices.Clone(src)
	i, at, e := compile.Program(src, conf())
	p, place, wrong := parse.Program(src)
	if wrong == api.OK {
		place, wrong = scope.Check(p)
	}
	if wrong == api.OK && lower.Slots(p, scope.Atoms(p)) > 240 {
		place, wrong = 0, api.ErrImage
	}
	if at != place || e != wrong || at < 0 || at > len(src) || none(i) != (e != api.OK) {
		t.Fatalf("%q: %d, error %d, not %d, %d", src, at, int(e), place, int(wrong))
	}
	if !slices.Equal(src, before) {
		t.Fatalf("%q was %q", src, before)
	}
	return e == api.OK
}

// P26.3, P26.4: whatever bytes it is given: there is an image just if they are a program whose names are there; else the error's place is in the text, or its end.
func TestAnyBytes(t *testing.T) {
	r := bench.Row(3)
	for range 3000 {
		src := make([]byte, r.Next(40))
		for k := range src {
			src[k] = byte(r.Next(256))
		}
		just(t, src)
	}
	words := strings.Fields("actor A B x y main let spawn send out become stop if else receive when after self _ 'a 'b 0 1 2305843009213693951 ( ) { } , ; = == + - * < #\n")
	for range 3000 {
		var l []string
		for range r.Next(30) {
			l = append(l, words[r.Next(len(words))])
		}
		just(t, []byte(strings.Join(l, " ")))
	}
}

// P26.3, P26.4: programs that are cut off anywhere, or of which bytes are other ones, or gone, or there twice.
func TestChangedBytes(t *testing.T) {
	r := bench.Row(4)
	right := 0
	for range 12 {
		src := source(&r)
		for n := range len(src) {
			just(t, []byte(src[:n]))
		}
		for range 300 {
			n, m := r.Next(len(src)), r.Next(len(src))
			n, m = min(n, m), min(max(n, m), n+8)
			l := []byte(src)
			switch r.Next(4) {
			case 0:
				l[n] = byte(r.Next(128))
			case 1:
				l[n] = l[m]
			case 2:
				l = slices.Delete(l, n, m)
			case 3:
				l = slices.Insert(l, n, []byte(src[n:m])...)
			}
			if just(t, l) {
				right++
			}
		}
	}
	if right < 100 {
		t.Errorf("%d are programs still", right)
	}
}
