package lower_test

import (
	"fmt"
	"strings"
	"testing"

	"postbag/api"
	"postbag/bench"
)

// P25.2: there is room for just what may be kept and what a body reckons: with that many words a program goes to its end, with one less memory is full.
func TestRoom(t *testing.T) {
	for name, x := range map[string]struct {
		src   string
		least int
	}{
		"statements":                     {actor("let a = {1, 2, 3, 4}; let b = {a, a}; out {b}; stop"), 10},
		"statements and the end":         {actor("let a = {1, 2, 3, 4}; let b = {a, a}; become B({b, b, b, b}) } actor B(x) { stop"), 13},
		"an if":                          {actor("let a = {1, 2, 3, 4}; if {a, {1}} == 0 { stop } else { let b = {1, 2}; out b; stop }"), 10},
		"an if's part":                   {actor("let a = {1, 2, 3, 4}; if {a} == 0 { stop } else { let b = {1, 2, a}; let c = {b}; out c; stop }"), 11},
		"what is in scope":               {"actor A(x) { let y = {x, 1}; become B(y) } actor B(y) { let z = {y, 2}; out z; stop } main A({0, 0, 0, 0})", 11},
		"what is in scope no more":       {"actor A(x) { let y = {x, 1}; become B(1) } actor B(y) { let z = {1, 2, 3, 4}; let w = {1, 2, 3, z}; out z; stop } main A({0, 0, 0, 0})", 10},
		"of two parts one":               {actor("if 1 { let a = {1, 2, 3, 4}; let b = {1, 2, 3, a}; out b; stop } else { let a = {{{{1, 2, 3, 4}, 2, 3, 4}, 2, 3, 4}, 2, 3, 4}; stop }"), 10},
		"main's arguments":               {"actor A(x, y) { stop } main A({1, {2, 3}}, {4, 5, {6, 7, 8}})", 14},
		"operands":                       {actor("out {1, 2} < {3, 4, 5}; out 1; out {1} == {2}; stop"), 11},
		"what is sent":                   {actor("send self, {1, 2, {3}}; send self, {4, 5, 6, 7}; receive { x { stop } }"), 11},
		"a message":                      {actor("send self, {1, 2, {3}}; become B() } actor B() { receive { x { become C() } } } actor C() { receive { after 0 { stop } }"), 8},
		"a message and what is in scope": {"actor A(a) { send self, {1, 2, 3}; receive { x { become B(a, x) } } } actor B(a, x) { out {a, x}; stop } main A({1, {2}})", 5 + 4 + 3},
		"a message that binds nothing":   {"actor A(a) { send self, {1, 2, 3, {4}}; become B(a) } actor B(a) { receive { _ { become C(a) } } } actor C(a) { out a; stop } main A({1, {2}})", 5 + 7},
		"a guard":                        {actor("send self, 1; receive { x when {{{{1, 2, 3, 4}, 2, 3, 4}, 2, 3, 4}, 2, 3, 4} == 0 { stop } y { out 1; stop } }"), 8},
		"a guard of a message that fits": {"actor A(a) { send self, 1; send self, {1, 2, 3, {4, 5}}; become B(a) } actor B(a) { receive { {x, y, z, w} when {{x, y}, z, {w, w, w}} { stop } 1 { out a; stop } } } main A({1, 2})", 3 + 8},
		"arguments of another one":       {"actor A() { let x = {1, 2, 3}; let p = spawn B(x, {x}, {x, x}); stop } actor B(x, y, z) { stop } main A()", 4 + 4 + 2 + 4 + 4 + 3},
		"none":                           {actor("let a = 1; send self, a; receive { x { out x; stop } }"), 8},
	} {
		t.Run(name, func(t *testing.T) {
			for words := 8; words < x.least+6; words++ {
				c := roomy()
				c.Words = words
				if w := plain(t, x.src, c); w.full != (words < x.least) {
					w.Fatalf("%d words, %d are enough: %s", words, x.least, w.told())
				}
			}
		})
	}
}

// P25.2: heaps so small that they are collected all the time, on one to four harts.
func TestCollected(t *testing.T) {
	small := api.Conf{Actors: 6, Blocks: 6, Words: 8, Budget: 2}
	more := small
	more.Words = 21
	plays(t, 51, 4, []scene{
		{name: "rounds", src: "actor A(n, x) { let y = {n, x}; if n < 40 { become A(n + 1, n) } else { out y; stop } } main A(0, 0)", told: "{40,39}", c: small},
		{name: "what is kept", src: "actor A(n, x, y) { let z = {n}; if n < 40 { become A(n + 1, z, y) } else { out {x, y}; stop } } main A(0, 0, {7})", told: "{{39},{7}}", c: api.Conf{Actors: 6, Blocks: 6, Words: 9, Budget: 2}},
		{name: "a list that turns", src: "actor A(n, x, y) { if n { become A(n - 1, {x, n}, y) } else { become B(x, 0) } } actor B(x, y) { if x == 0 { out y; stop } else { send self, x; receive { {r, k} { become B(r, {k, y}) } } } } main A(3, 0, 5)", told: "{3,{2,{1,0}}}", c: more},
		{name: "messages", src: "actor A(n) { send self, {n, {n + 1}, n}; receive { {a, {b}, c} when b < 40 { become A(b) } {a, b, c} { out {a, b, c}; stop } } } main A(0)", told: "{39,{40},39}", c: api.Conf{Actors: 6, Blocks: 1, Words: 12, Budget: 2}},
		{name: "all of it", src: "actor A() { let b = spawn B(self, 0, {0}); become C(0) } actor C(n) { receive { {x, {y}} when x == 30 { out {x, y}; stop } {x, y} { become C(x) } } } actor B(p, n, x) { send p, {n, x}; if n < 30 { receive { y { stop } after 1 { become B(p, n + 1, {n}) } } } else { stop } } main A()", told: "{30,29}", c: api.Conf{Actors: 2, Blocks: 40, Words: 9, Budget: 3}},
	})
}

// P25.2: where an actor, a block, or room lacks, memory is full, and nothing is told behind that.
func TestFull(t *testing.T) {
	small := api.Conf{Actors: 3, Blocks: 3, Words: 8, Budget: 2}
	long := "{1, 2, 3, {4, 5, 6, {7, 8, 9, {10, 11, 12, {13, 14, 15, {16, %s}}}}}}"
	plays(t, 52, 4, []scene{
		{name: "the doc's value", src: "actor A(x) { become A({x, x}) } main A(0)", told: "full"},
		{name: "the doc's actors", src: actor("let a = spawn A(); stop"), told: "full"},
		{name: "actors", src: actor("let a = spawn B(); let b = spawn B(); out 1; let c = spawn B(); out 2; stop } actor B() { stop"), told: "1 full", c: small},
		{name: "actors, all of them", src: actor("let a = spawn B(); let b = spawn B(); out 1; stop } actor B() { stop"), told: "1", c: small},
		{name: "blocks", src: actor(sends("1", "2", "3") + "out 1; " + sends("4") + "out 2; stop"), told: "1 full", c: small},
		{name: "blocks, all of them", src: actor(sends("1", "2", "3") + "out 1; receive { 2 { " + sends("4") + "out 2; " + sends("5") + "out 3; stop } }"), told: "1 2 full", c: small},
		{name: "blocks of one that stopped", src: actor("let b = spawn B(self); receive { x { send b, 1; send b, 2; out 1; send b, 3; out 2; send b, 4; out 3; stop } } } actor B(p) { send p, 1; stop"), told: "1 2 full", c: small},
		{name: "a message", src: actor("send self, " + fmt.Sprintf(long, "{17}") + "; receive { {_, _, _, {_, _, _, {_, _, _, {_, _, _, {_, _, _, {x, y}}}}}} { out {x, y}; stop } }"), told: "{16,{17}}"},
		{name: "a message that is too long", src: actor("out 1; send self, " + fmt.Sprintf(long, "{17, 18}") + "; out 2; stop"), told: "1 full"},
		{name: "a message that is too long for tuples that are met twice", src: actor("let x = {1, 2, 3, 4}; let y = {x, x, x}; send self, y; out 1; send self, {y, y}; out 2; stop"), told: "1 full"},
		{name: "a statement's value", src: actor("out 1; if 1 { out 2; let x = {1, 2, 3, {1, 2, 3, 4}}; out x; stop } else { stop }"), told: "1 full", c: small},
		{name: "an argument", src: actor("out 1; let x = {1, 2, 3}; let y = spawn B(x, x); out 2; let z = spawn B(x, {x}); out 3; stop } actor B(x, y) { receive { z { stop } }"), told: "1 2 full", c: api.Conf{Actors: 3, Blocks: 3, Words: 9, Budget: 2}},
		{name: "main's argument", src: "actor A(x) { out 1; stop } main A({1, 2, 3, {1, 2, 3, 4}})", told: "full", c: small},
		{name: "for what comes", src: "actor A(a) { out 1; let b = spawn B(self); receive { x { out 2; stop } } } actor B(p) { send p, {1, 2, {3}}; receive { x { stop } } } main A({1, 2})", told: "1 full", c: small},
		{name: "for what just has room", src: "actor A(a) { out 1; let b = spawn B(self); receive { x { out 2; stop } } } actor B(p) { send p, {1, 2, 3, 4}; stop } main A({1, 2})", told: "1 2", c: small},
	})
}

// P25.2, P25.3: tuples as wide and as deep as may be; one that is too great ends what is told, also where memory has room for it.
func TestGreat(t *testing.T) {
	c := roomy()
	c.Words = 1024
	deep := func(n int) string { return strings.Repeat("{", n) + "5" + strings.Repeat("}", n) }
	told := "{1,2,3,{1,2,3,4}}"
	plays(t, 53, 2, []scene{
		{name: "wide", src: actor("let x = {1, 2, 3, 4}; out {1, 2, 3, x}; stop"), told: told, c: c},
		{name: "deep", src: actor("let x = " + deep(60) + "; out {{{{x}}}}; stop"), told: deep(64), c: c},
		{name: "too deep", src: actor("let x = " + deep(60) + "; out 1; out {{{{{x}}}}}; out 2; stop"), told: "1 great", c: c},
		{name: "too deep, and not told", src: actor("let x = " + deep(60) + "; let y = {{{{{x}}}}}; out 1; stop"), told: "1", c: c},
		{name: "too many words", src: "actor A(n, x) { if n { become A(n - 1, {x, x, x, x}) } else { out 1; out x; out {x}; out 2; stop } } main A(6, 0)", told: "1 great", c: c},
		{name: "too deep by rounds", src: "actor A(n, x) { if n < 70 { become A(n + 1, {x}) } else { out 1; out x; out 2; stop } } main A(0, 0)", told: "1 great", c: c},
	})
}

// P25.3: one actor that neither sends nor receives nor spawns tells just what the model tells, up to a full memory or a value that is too great, on whatever hart and by whatever script.
func TestAlone(t *testing.T) {
	r := bench.Row(54)
	ended, full, told := 0, 0, 0
	for n := range 120 {
		p, want, whole := alone(&r)
		c := anyConf(&r, 1+n%4)
		i := compiled(t, p, c)
		for _, s := range bench.Scripts(&r, 3) {
			w := begun(t, i)
			if !w.plays(s, most) {
				w.Fatalf("it goes on for too long")
			}
			got := w.outs
			if len(got) > len(want) || fmt.Sprint(got) != fmt.Sprint(want[:len(got)]) || !w.full && !w.great && (!whole || len(got) < len(want)) {
				w.Fatalf("%s, not %s", w.told(), want)
			}
			told += len(got)
			if w.full {
				full++
			} else {
				ended++
			}
		}
	}
	if min(ended, full) < 30 || told < 500 {
		t.Errorf("%d come to their end, %d are full, %d values are told", ended, full, told)
	}
}
