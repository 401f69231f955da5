package parse_test

import (
	"slices"
	"strings"
	"testing"

	"postbag/api"
	"postbag/lex"
	"postbag/parse"
)

// whole has each word of the grammar in each place where it may be.
const whole = "actor A(x, y) { let z = spawn B({x, 'a}, 2); let w = (x - y) * 3 + self; send z, w; out w < 1; " +
	"if x == y { stop } else { become A(z, 1) } } " +
	"actor B() { receive { {_, -1, {n}} when n < 9 { stop } 'b { stop } 4 { stop } v { become B() } after 5 { receive { after 6 { stop } } } } } " +
	"main A(1, {self})"

// P13.1: each word of the grammar left out, put in twice, put elsewhere, or another one in its place: the place that is told.
func TestEachWordAltered(t *testing.T) {
	g := readRules()
	l := words(t, whole)
	told := func(l []string) bool {
		src, _ := joined(l, blank)
		return g.isToldAs(t, src)
	}
	if !told(l) {
		t.Fatal("the whole is a program")
	}
	others := slices.Compact(slices.Sorted(slices.Values(append(l, "-", "main", ")"))))
	right := 0
	count := func(ok bool) {
		if ok {
			right++
		}
	}
	for i := range l {
		count(told(slices.Delete(slices.Clone(l), i, i+1)))
		count(told(slices.Insert(slices.Clone(l), i, l[i])))
		for _, w := range others {
			count(told(slices.Replace(slices.Clone(l), i, i+1, w)))
		}
		for j := range l {
			count(told(slices.Insert(slices.Delete(slices.Clone(l), i, i+1), min(j, len(l)-1), l[i])))
		}
		// And the end put ahead.
		if told(l[:i]) {
			t.Errorf("%v: not a program", l[:i])
		}
	}
	if right < 500 {
		t.Error(right)
	}
}

// P13.1: where a few are wrong, told without the second telling.
func TestPlaces(t *testing.T) {
	for src, at := range map[string]int{
		"main A()": 0, "A": 0, "actor": 5, "actor A": 7, "actor A(": 8, "actor A()": 9, "actor A() {": 11, "actor A() { stop": 16, "actor A() { stop }": 18,
		"actor A() { stop } main": 23, "actor A() { stop } main A": 25, "actor A() { stop } main A(": 26, "actor A() { stop } main A(1": 27, "actor A() { stop } main A(1,": 28,
		"actor actor A() { stop } main A()": 6, "actor A A() { stop } main A()": 8, "actor A(() { stop } main A()": 8, "actor A()) { stop } main A()": 9, "actor A() {{ stop } main A()": 11,
		"actor A() { stop stop } main A()": 17, "actor A() { stop }} main A()": 18, "actor A() { stop } main main A()": 24, "actor A() { stop } main A A()": 26, "actor A() { stop } main A(()": 27,
		"actor A() { stop; }": 16, "actor A() { }": 12, "actor A() { out 1 }": 18, "actor A() { out 1; }": 19, "actor A() { out; stop }": 15, "actor A() { stop; out 1; }": 16,
		"actor A { stop } main A()": 8, "actor (x) { stop } main A()": 6, "actor A() stop } main A()": 10, "actor A(1) { stop }": 8, "actor A('a) { stop }": 8, "actor A(x y) { stop }": 10, "actor A(x,) { stop }": 10, "actor A(,x) { stop }": 8,
		"actor A() { let = 1; stop }": 16, "actor A() { let x 1; stop }": 18, "actor A() { let x == 1; stop }": 18, "actor A() { let x = ; stop }": 20, "actor A() { let x = 1 stop }": 22, "actor A() { let 1 = x; stop }": 16,
		"actor A() { let x = spawn; stop }": 25, "actor A() { let x = spawn B; stop }": 27, "actor A() { let x = spawn B(1; stop }": 29, "actor A() { let x = spawn B() stop }": 30, "actor A() { let x = spawn B() + 1; stop }": 30, "actor A() { spawn B(); stop }": 12, "actor A() { out spawn B(); stop }": 16, "actor A() { let x = (spawn B()); stop }": 21,
		"actor A() { send x; stop }": 18, "actor A() { send x, ; stop }": 20, "actor A() { send x y; stop }": 19, "actor A() { send x, y, z; stop }": 21, "actor A() { send x, y stop }": 22,
		"actor A() { become }": 19, "actor A() { become A }": 21, "actor A() { become A(; }": 21, "actor A() { become A(); }": 22, "actor A() { become 'a() }": 19,
		"actor A() { if { stop } else { stop } }": 17, "actor A() { if {x} else { stop } }": 19, "actor A() { if {x} stop }": 19, "actor A() { if x stop else stop }": 17, "actor A() { if x { stop } }": 26, "actor A() { if x { stop } else stop }": 31, "actor A() { if x { stop } else { stop } else { stop } }": 40, "actor A() { if x { stop } else if y { stop } else { stop } }": 31, "actor A() { else { stop } }": 12,
		"actor A() { receive x { stop } }": 20, "actor A() { x = 1; stop }": 12, "actor A() { A(); stop }": 12, "actor A() { self }": 12, "actor A() { 1 }": 12, "actor A() { 'a }": 12,
		"actor A() { out x y; stop }": 18, "actor A() { out 1 2; stop }": 18, "actor A() { out 'a'b; stop }": 18, "actor A() { out x(1); stop }": 17, "actor A() { out {x; stop }": 18, "actor A() { out (x; stop }": 18, "actor A() { out (); stop }": 17, "actor A() { out {}; stop }": 17, "actor A() { out {x,}; stop }": 19, "actor A() { out {,x}; stop }": 17, "actor A() { out (x}; stop }": 18, "actor A() { out {x); stop }": 18,
		"actor A() { receive { {} { stop } } }": 23, "actor A() { receive { (x) { stop } } }": 22, "actor A() { receive { x + 1 { stop } } }": 24, "actor A() { receive { {x { stop } } }": 25, "actor A() { receive { self { stop } } }": 22,
		"actor A() { receive x } }": 20, "actor A() { receive { x { stop } out 1; } }": 33,
	} {
		isWrong(t, src, at, api.ErrSyntax)
	}
	for src, at := range map[string]int{"x y": 2, "(": 1, ")": 0, "()": 1, "(x": 2, "(x))": 3, "{": 1, "{}": 1, "{x": 2, "x,": 1, "x;": 1, "{x} {": 4, "f(x)": 1, "x = 1": 2, "1 2": 2, "let": 0, "x stop": 2, "{x,,y}": 3} {
		isNoExpr(t, src, at, api.ErrSyntax)
	}
}

// P13.1: words behind the end.
func TestBehindTheEnd(t *testing.T) {
	src, _ := joined(words(t, whole), blank)
	for _, w := range []string{"x", "1", "'a", ")", "}", "{", "(", ";", ",", "+", "==", "actor", "main", "stop", "_", "actor B() { stop }", "main A()"} {
		isWrong(t, src+w, len(src), api.ErrSyntax)
		isWrong(t, src+"#\n"+w+" #", len(src)+2, api.ErrSyntax)
		if w != "(" && w != "+" && w != "==" {
			isNoExpr(t, "(x) "+w, 4, api.ErrSyntax)
		}
	}
	isProgram(t, src+"# main A()")
}

// P13.1: of thrown programs in which words are altered, held against the second telling.
func TestThrownWordsAltered(t *testing.T) {
	g := readRules()
	r := row(7)
	right, wrong := 0, 0
	for range 1000 {
		p := grown{row: r}
		p.program()
		r = p.row
		l := p.words
		for range 1 + r.next(2) {
			i, j := r.next(len(l)), r.next(len(l))
			switch r.next(5) {
			case 0:
				l = slices.Delete(l, i, i+1)
			case 1:
				l = slices.Insert(l, i, l[j])
			case 2:
				l[i] = l[j]
			case 3:
				l[i], l[j] = l[j], l[i]
			default:
				l[i] = one(&r, "{", "}", "(", ")", ",", ";", "-", "<", "x", "1", "'a", "self", "_", "after", "when", "let", "stop", "if", "receive", "else")
			}
		}
		src, _ := joined(l, r.widely)
		if g.isToldAs(t, src) {
			right++
		} else {
			wrong++
		}
	}
	if right < 50 || wrong < 500 {
		t.Error(right, wrong)
	}
}

// P13.1: all short rows of words, held against the second telling.
func TestRowsOfWords(t *testing.T) {
	g := readRules()
	all := []string{"x", "1", "'a", "self", "{", "}", "(", ")", ",", "+", "<", "_"}
	var next func(l []string)
	next = func(l []string) {
		src := strings.Join(l, " ")
		tokens, _, _ := lex.Tokens([]byte(src))
		ok, at := g.place(tokens, "Alone")
		if ok {
			isExpr(t, src)
		} else {
			isNoExpr(t, src, at, api.ErrSyntax)
		}
		// What can't be the beginning need not be gone on with.
		if len(l) < 6 && at == len(src) {
			for _, w := range all {
				next(append(l[:len(l):len(l)], w))
			}
		}
	}
	next(nil)
}

// P13.1: with each word, what was told of the words ahead of it stays so, unless it was their end that was wrong.
func TestPlacesGrow(t *testing.T) {
	r := row(8)
	for range 200 {
		var l []string
		for range 1 + r.next(30) {
			l = append(l, one(&r, words(t, whole)...))
		}
		src, ats := joined(l, blank)
		_, at, _ := parse.Program([]byte(src))
		for n := range l {
			short, _ := joined(l[:n], blank)
			_, was, e := parse.Program([]byte(short))
			want := min(at, ats[n])
			if e != api.ErrSyntax || was != want {
				t.Fatalf("%q: %d, not %d", short, was, want)
			}
		}
	}
}
