package run_test

import (
	"strings"
	"testing"

	"postbag/api"
	"postbag/bench"
	"postbag/compile"
	"postbag/items"
)

// Tags of words.
const (
	tuple = 1
	atom  = 2
	pid   = 3
)

func integer(n int) uint64 { return uint64(n) << 2 }

// A tale is what is told, and what is to be noted of it.
type tale struct {
	what   string
	events []event
	outs   string
	full   bool
	wrong  api.Errno
}

// An event is told by a code and a word, behind words that are laid at a place.
type event struct {
	code, a uint64
	at      uint64
	words   []uint64
}

func value1(w uint64) event { return event{code: codeValue, a: w} }

func value2(at uint64, words ...uint64) event {
	return event{codeValue, at + tuple, at, words}
}

// lays lays what tells it.
func (x tale) lays(w text) {
	for _, e := range x.events {
		if len(e.words) > 0 {
			w.stores(e.at, e.words...)
		}
		w.tells(e.code, e.a, 99)
	}
}

// nested tells words of so many tuples in one another, from a place on, and where the outer one is.
func nested(at uint64, deep int) event {
	e := value2(at)
	for k := range deep {
		inner := at + 16*uint64(k-1) + tuple
		if k == 0 {
			inner = integer(7)
		}
		e.words = append(e.words, 1, inner)
	}
	e.a = at + 16*uint64(deep-1) + tuple
	return e
}

// doubled tells a tuple of those parts, and of one of 4095 parts ahead of them, which stands in few words.
func doubled(at uint64, parts ...uint64) event {
	e := value2(at)
	inner := integer(1)
	for k := range 11 {
		e.words = append(e.words, 2, inner, inner)
		inner = at + 24*uint64(k) + tuple
	}
	e.a = at + 8*uint64(len(e.words)) + tuple
	e.words = append(e.words, uint64(1+len(parts)), inner)
	e.words = append(e.words, parts...)
	return e
}

// doubledText tells the text of so many tuples of two in one another.
func doubledText(deep int) string {
	if deep == 0 {
		return "1"
	}
	s := doubledText(deep - 1)
	return "{" + s + "," + s + "}"
}

// values are tales of values alone.
func values(l api.Layout) []tale {
	at, mid, end := l.Actors, l.Blocks, l.End
	return []tale{
		{"nothing", nil, "", false, 0},
		{"integers", []event{value1(integer(0)), value1(integer(1)), value1(integer(-1)), value1(integer(1<<61 - 1)), value1(1 << 63)}, "0 1 -1 2305843009213693951 -2305843009213693952", false, 0},
		{"atoms", []event{value1(atom), value1(integer(5) + atom), value1(integer(1<<20-1) + atom)}, "a0 a5 a1048575", false, 0},
		{"actors", []event{value1(pid), value1(integer(63) + pid), value1(integer(1<<20-1) + pid)}, "p0 p63 p1048575", false, 0},
		{"wide tuples", []event{value2(at, 1, 4), value2(at, 2, 4, 8), value2(at, 3, 2, 3, 4), value2(at, 4, 4, 8, 12, 16)}, "{1} {1,2} {a0,p0,1} {1,2,3,4}", false, 0},
		{"at the end of all", []event{value2(end-16, 1, 4), value2(end-40, 4, 0, 4, 8, 12)}, "{1} {0,1,2,3}", false, 0},
		{"in blocks", []event{value2(mid, 1, 4), value2(mid-16, 2, 4, 8)}, "{1} {1,2}", false, 0},
		{"as deep as may be", []event{nested(at, 64), value1(4)}, strings.Repeat("{", 64) + "7" + strings.Repeat("}", 64) + " 1", false, 0},
		{"too deep", []event{value1(4), nested(at, 65), value1(8)}, "1", true, 0},
		{"as great as may be", []event{doubled(at), value1(4)}, "{" + doubledText(11) + "} 1", false, 0},
		{"too great by one", []event{value1(4), doubled(at, 4), value1(8)}, "1", true, 0},
		{"too great by far", []event{doubled(at, at+24*10+tuple, at+24*10+tuple), value1(8)}, "", true, 0},
		{"one and the same, and then another one", []event{value2(at, 1, 4), value2(at, 1, 8), value1(at + tuple)}, "{1} {2} {2}", false, 0},
	}
}

// oddities are tales of what may not be.
func oddities(l api.Layout) []tale {
	at, end := l.Actors, l.End
	wrong := api.ErrValue
	one := value1(4)
	list := []tale{
		{"another code behind", []event{one, {code: 3}}, "1", false, wrong},
		{"another code ahead", []event{{code: 3, a: 4}, one}, "1", false, wrong},
		{"the greatest code", []event{{code: 1<<64 - 1}, one}, "1", false, wrong},
		{"a code with more bits", []event{{code: 1<<32 + 1}, one, {code: 1<<63 + 2}}, "1", false, wrong},
		{"full", []event{one, {code: codeFull, a: 4}}, "1", true, 0},
		{"full alone", []event{{code: codeFull}}, "", true, 0},
		{"a value behind full", []event{one, {code: codeFull}, value1(8)}, "1 2", true, wrong},
		{"full twice", []event{one, {code: codeFull}, {code: codeFull}}, "1", true, wrong},
		{"another code behind full", []event{{code: codeFull}, {code: 7}}, "", true, wrong},
		{"no value behind full", []event{{code: codeFull}, value1(1<<40 + atom)}, "", true, wrong},
		{"too great behind full", []event{{code: codeFull}, nested(at, 65)}, "", true, wrong},
		{"much behind what is too great", []event{nested(at, 65), one, {code: codeFull}, {code: 3}, value1(at + 4 + tuple), {code: codeFull}, nested(at, 65)}, "", true, 0},
		{"what is wrong ahead of what is too great", []event{{code: 3}, nested(at, 65), one}, "", true, wrong},
	}
	for what, e := range map[string]event{
		"an atom too great":           value1(integer(1<<20) + atom),
		"the greatest atom":           value1(1<<64 - 4 + atom),
		"an actor too great":          value1(integer(1<<20) + pid),
		"a tuple of none":             value2(at, 0, 4),
		"a tuple of five":             value2(at, 5, 4, 4, 4, 4, 4),
		"a tuple of very many":        value2(at, 1<<63+1, 4),
		"a tuple at no word":          {codeValue, at + 4 + tuple, at, []uint64{1, 4, 4}},
		"a tuple ahead of records":    {codeValue, at - 8 + tuple, at, []uint64{4}},
		"a tuple in globals":          {codeValue, l.Globals + tuple, l.Globals, []uint64{1, 4}},
		"a tuple in code":             value1(l.Code + tuple),
		"a tuple behind all":          value1(end + tuple),
		"a tuple that is cut off":     value2(end-8, 1),
		"a longer one that is":        value2(end-32, 4, 4, 4, 4),
		"a tuple far away":            value1(1<<63 + tuple),
		"a tuple at the end of all":   value1(1<<64 - 8 + tuple),
		"a wrong part":                value2(at, 2, 4, integer(1<<20)+pid),
		"a wrong part ahead of depth": value2(at, 2, 1<<40+atom, at+tuple),
	} {
		list = append(list, tale{what, []event{one, e, value1(12)}, "1 3", false, wrong})
	}
	return append(list,
		tale{"depth ahead of a wrong part", []event{one, value2(at, 2, at+tuple, 1<<40+atom), value1(12)}, "1", true, 0},
		tale{"in itself", []event{value2(at, 1, at+tuple), one}, "", true, 0})
}

// P27.2, P27.3: values of each kind that are told, tuples as wide and as deep as may be, values just as great as may be and one too great; events of another code, words that are no value, and what is told behind a full memory.
func TestTold(t *testing.T) {
	c := conf(1)
	l := laid(t, c)
	for _, x := range append(values(l), oddities(l)...) {
		w := boots()
		x.lays(w)
		w.ends()
		i := w.image(t, c)
		r, p := begun(t, i), told(t, i)
		n := r.Play(nil, 20000)
		if a, b := stateOf(r), (state{x.outs, x.full, true, x.wrong, n}); a != b {
			t.Errorf("%s: %+v, not %+v", x.what, a, b)
		}
		p.play(nil, 20000)
		p.wholly(r)
		if a := len(r.Machine().Events()); a != len(x.events) {
			t.Errorf("%s: %d events", x.what, a)
		}
	}
}

// P27.2: thrown rows of such tales, told choice by choice, by all harts at a time: each has its own label.
func TestToldThrown(t *testing.T) {
	r := bench.Row(5)
	count := map[state]int{}
	for range 150 {
		c := conf(1 + r.Next(4))
		l := laid(t, c)
		list := append(values(l), oddities(l)...)
		w := boots()
		for h := range c.Harts {
			next := "hart " + string(rune('0'+h))
			w.Const(7, uint64(h))
			w.Branch(api.OpBne, items.First, 7, next)
			for range 1 + r.Next(2) {
				x := list[r.Next(len(list))]
				if r.Next(3) > 0 {
					x = values(l)[r.Next(6)]
				}
				x.lays(w)
			}
			w.ends()
			w.Label(next)
		}
		i := w.image(t, c)
		x, p := begun(t, i), told(t, i)
		for range 3000 {
			n := r.Next(1 << 20)
			x.Do(n)
			if _, e := p.do(n); e != api.OK {
				break
			}
		}
		p.wholly(x)
		s := p.state()
		count[state{full: s.full, wrong: s.wrong}]++
		if a := strings.Count(s.outs, " "); a > 3 {
			count[state{outs: "many"}]++
		}
	}
	for _, s := range []state{{}, {full: true}, {wrong: api.ErrValue}, {full: true, wrong: api.ErrValue}, {outs: "many"}} {
		if count[s] < 8 {
			t.Errorf("%+v: %d times", s, count[s])
		}
	}
}

// P27.2: what is told is what stands in memory then: no store that another hart has open still, and none that comes behind it.
func TestToldThen(t *testing.T) {
	c := conf(2)
	at := laid(t, c).Actors
	w := boots()
	w.Branch(api.OpBne, items.First, items.Zero, "other")
	w.tells(codeValue, at+tuple, 0)
	w.ends()
	w.Label("other")
	w.stores(at, 1, 8)
	w.ends()
	i := w.image(t, c)
	first := begun(t, i)
	for range 12 {
		first.Do(0) // hart 0 alone: nothing stands there yet
	}
	if s := stateOf(first); s.wrong != api.ErrValue || s.outs != "" {
		t.Errorf("%+v", s)
	}
	first.Play(nil, 1000)
	if s := stateOf(first); s.wrong != api.ErrValue || s.outs != "" || !s.done {
		t.Errorf("%+v", s)
	}
	second := begun(t, i)
	for second.Machine().Stopped(1) == api.OK {
		second.Do(-1 - (len(second.Machine().Choices()) - 1)) // the last choice: hart 1 alone
	}
	second.Play(nil, 1000)
	if s := stateOf(second); s.outs != "{2}" || s.wrong != api.OK {
		t.Errorf("%+v", s)
	}
	stays := boots()
	for k := range 30 {
		stays.stores(at, 1, integer(k))
		stays.tells(codeValue, at+tuple, 0)
		stays.stores(at, 0, 0)
	}
	stays.ends()
	r := begun(t, stays.image(t, conf(1)))
	r.Play(nil, 5000)
	if l := r.Outs(); len(l) != 30 || texts(l[28:]) != "{28} {29}" || r.Wrong() != api.OK {
		t.Errorf("%s, %d", texts(l), int(r.Wrong()))
	}
}

// P27.2: an ecall that stops its hart tells nothing, nor does what jumps to where an ecall stands ahead.
func TestToldNothing(t *testing.T) {
	w := boots()
	w.Const(10, 4)
	w.Const(17, 1)
	w.Jump(0, "behind")
	w.Inst(api.Inst{Op: api.OpEcall})
	w.Label("behind")
	w.Const(5, 3)
	w.Label("again")
	w.Number(api.OpAddi, 5, 5, -1)
	w.Branch(api.OpBeq, 5, items.Zero, "out")
	w.Jump(0, "again")
	w.Label("out")
	w.ends()
	i := w.image(t, conf(1))
	r, p := begun(t, i), told(t, i)
	n := r.Play(nil, 1000)
	p.play(nil, 1000)
	p.wholly(r)
	if s := stateOf(r); s != (state{done: true, steps: n}) {
		t.Errorf("%+v", s)
	}
}

// P27.2: code that stores code: an ecall that was there no instruction ago is told all the same.
func TestToldByNewCode(t *testing.T) {
	at := "here"
	w := boots()
	w.Addr(5, at)
	w.Const(6, 0x73)
	w.Const(10, 20)
	w.Const(17, 1)
	w.Inst(api.Inst{Op: api.OpSw, Rs1: 5, Rs2: 6})
	w.Inst(api.Inst{Op: api.OpLw, Rd: 7, Rs1: 5})
	w.Branch(api.OpBne, 7, 6, "never")
	w.Label(at)
	w.Number(api.OpAddi, 0, 0, 0)
	w.Label("never")
	w.ends()
	i := w.image(t, conf(1))
	for _, script := range [][]int{nil, {0}, {-1, -2, -3}} {
		r, p := begun(t, i), told(t, i)
		r.Play(script, 1000)
		p.play(script, 1000)
		p.wholly(r)
	}
	// The store performs ahead of what is told, if the last choice is always done.
	r := begun(t, i)
	for !r.Done() {
		r.Do(len(r.Machine().Choices()) - 1)
	}
	if s := stateOf(r); s.outs != "5" || s.wrong != api.OK {
		t.Errorf("%+v", s)
	}
}

// whole tells a run of a program that has been played to its end.
func whole(t *testing.T, src string, c api.Conf) state {
	t.Helper()
	r := begun(t, compiled(t, src, c))
	n := r.Play(nil, 200000)
	if n == 200000 {
		t.Fatalf("%s goes on for too long", src)
	}
	s := stateOf(r)
	if !s.done || s.steps != n {
		t.Fatalf("%s: %+v", src, s)
	}
	return s
}

// P27.3, P27.4: memory that is full by heaps, by blocks, by records, by messages too great, and by values too great: that is told, nothing behind it, and nothing is wrong.
func TestFull(t *testing.T) {
	for what, x := range map[string]struct {
		src, outs string
		words     int
		full      bool
	}{
		"a heap":            {"actor A(x) { out 1; become B({x, x}) } actor B(x) { become B({x, x}) } main A(0)", "1", 64, true},
		"blocks":            {"actor A(n) { out n; become B() } actor B() { send self, 1; become B() } main A(3)", "3", 64, true},
		"records":           {"actor A(n) { out n; if n < 3 { let a = spawn A(n + 1); stop } else { stop } } main A(0)", "0 1 2 3", 64, false},
		"records, all":      {"actor A() { let a = spawn A(); stop } main A()", "", 64, true},
		"a message":         {"actor A(x) { out 5; send self, {x, x, x, x}; stop } main A({{1, 2, 3}, {4, 5, 6}, {7, 8, 9}, {1, 2, {3, 4}}})", "5", 64, true},
		"a value too great": {"actor A(n, x) { if n < 12 { become A(n + 1, {x, x}) } else { out 1; out x; out 2; stop } } main A(0, 0)", "1", 512, true},
		"a value too deep":  {"actor A(n, x) { if n < 65 { become A(n + 1, {x}) } else { out 1; out x; out 2; stop } } main A(0, 0)", "1", 512, true},
		"deep, but not too": {"actor A(n, x) { if n < 64 { become A(n + 1, {x}) } else { out 1; out x; out 2; stop } } main A(0, 0)", "1 " + strings.Repeat("{", 64) + "0" + strings.Repeat("}", 64) + " 2", 512, false},
	} {
		for harts := 1; harts <= 4; harts++ {
			c := conf(harts)
			c.Words = x.words
			s := whole(t, x.src, c)
			if s.outs != x.outs || s.full != x.full || s.wrong != api.OK {
				t.Errorf("%s, %d harts: %+v", what, harts, s)
			}
		}
	}
}

// P27.3: a run's image keeps telling numbers as great as may be.
func TestManyOuts(t *testing.T) {
	src := "actor A(n) { out {n, n * n}; if n < 300 { become A(n + 1) } else { stop } } main A(0)"
	i, at, e := compile.Program([]byte(src), api.Conf{Harts: 8, Actors: 64, Blocks: 256, Words: 1024, Budget: 1000})
	if e != api.OK {
		t.Fatal(at, int(e))
	}
	r := begun(t, i)
	r.Fair(60000)
	l := r.Outs()
	if len(l) != 301 || texts(l[299:]) != "{299,89401} {300,90000}" || !r.Done() || r.Wrong() != api.OK || r.Full() {
		t.Errorf("%d values, %+v", len(l), stateOf(r))
	}
}
