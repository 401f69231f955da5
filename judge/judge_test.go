package judge_test

import (
	"reflect"
	"slices"
	"strconv"
	"strings"
	"testing"

	"postbag/api"
	"postbag/bench"
	"postbag/compile"
	"postbag/judge"
	"postbag/model"
	"postbag/run"
	"postbag/thrown"
	"postbag/tree"
	"postbag/value"
)

const (
	least = -1 << 63
	most  = 1<<63 - 1
)

func conf(harts int) api.Conf {
	return api.Conf{Harts: harts, Actors: 4, Blocks: 6, Words: 64, Budget: 2}
}

// anyConf tells a config, mostly with little room.
func anyConf(r *bench.Row) api.Conf {
	c := api.Conf{Harts: 1 + r.Next(4), Actors: 1 + r.Next(12), Blocks: 1 + r.Next(16), Words: 8 + r.Next(60), Budget: 1 + r.Next(5)}
	if r.Next(3) > 0 {
		c.Actors, c.Blocks, c.Words = 64, 40, 400
	}
	return c
}

// anyProgram tells a thrown program.
func anyProgram(r *bench.Row) string {
	return tree.Print(thrown.Program(r, thrown.Style{Rounds: 1 + r.Next(6), Spawns: r.Next(2), Deep: 1 + r.Next(3), Alone: r.Next(6) == 0}))
}

// anyScript tells a thrown script.
func anyScript(r *bench.Row, n int) []int {
	l := make([]int, r.Next(n+1))
	for k := range l {
		l[k] = r.Next(1<<20) - 1<<19
	}
	return l
}

// texts tells values' texts.
func texts(l []api.Value) string {
	var s []string
	for _, v := range l {
		s = append(s, value.Text(v))
	}
	return strings.Join(s, " ")
}

// judged tells a verdict, which is fine.
func judged(t *testing.T, src string, c api.Conf, script []int, steps, most int) judge.Verdict {
	t.Helper()
	v := judge.Judge([]byte(src), c, script, steps, most)
	if !judge.Fine(v) {
		t.Fatalf("%s\n%+v, %d steps: %+v", src, c, steps, v)
	}
	return v
}

// P28.1: with an error of compile's there is that one, with its place, and nothing else.
func TestErrors(t *testing.T) {
	good := "actor A() { stop } main A()"
	many := "stop } main A()"
	for k := range 241 {
		many = "let v" + strconv.Itoa(k) + " = 1; " + many
	}
	many = "actor A() { " + many
	for _, x := range []struct {
		src string
		c   api.Conf
		at  int
		e   api.Errno
	}{
		{good, api.Conf{}, 0, api.ErrArg},
		{"?", api.Conf{}, 0, api.ErrArg},
		{good, conf(0), 0, api.ErrArg},
		{good, conf(9), 0, api.ErrArg},
		{good, api.Conf{Harts: 1, Actors: 1, Blocks: 1, Words: 7, Budget: 1}, 0, api.ErrArg},
		{"", conf(1), 0, api.ErrSyntax},
		{"actor A() { out ?; stop }", conf(1), 16, api.ErrLex},
		{"actor A() { out x; stop } main A()", conf(1), 16, api.ErrName},
		{"actor A() { become B() } main A()", conf(1), 12, api.ErrName},
		{"actor A() { stop } main B()", conf(2), 24, api.ErrName},
		{"actor A(x) { stop } main A()", conf(2), 25, api.ErrArity},
		{"actor A() { stop } actor A() { stop } main A()", conf(2), 19, api.ErrTwice},
		{"actor A() { stop } main A() main", conf(2), 28, api.ErrSyntax},
		{many, conf(2), 0, api.ErrImage},
	} {
		for _, n := range []int{0, -1, 100, most} {
			v := judge.Judge([]byte(x.src), x.c, []int{1, 2}, n, n)
			if !reflect.DeepEqual(v, judge.Verdict{At: x.at, Error: x.e}) || !judge.Fine(v) {
				t.Errorf("%.80s: %+v, not %d, %d", x.src, v, x.at, int(x.e))
			}
		}
	}
	if v := judge.Judge(nil, conf(1), nil, 1, 1); v.Error != api.ErrSyntax || v.At != 0 || !judge.Fine(v) {
		t.Errorf("%+v", v)
	}
}

// P28.1: the document's example; by fewer steps nothing is told yet.
func TestExample(t *testing.T) {
	src := "actor A() { out 1; stop } main A()"
	one := []api.Value{{Kind: api.ValInt, N: 1}}
	for harts := 1; harts <= 4; harts++ {
		v := judged(t, src, conf(harts), nil, 2000*harts, 100)
		if !reflect.DeepEqual(v, judge.Verdict{Outs: one, Done: true, Explained: true, Whole: true}) {
			t.Errorf("%+v", v)
		}
	}
	for _, steps := range []int{0, -1, least, 1, 20} {
		v := judged(t, src, conf(1), nil, steps, 100)
		if v.Outs = nil; !reflect.DeepEqual(v, judge.Verdict{Explained: true, Whole: true}) {
			t.Errorf("%d steps: %+v", steps, v)
		}
	}
	v := judged(t, src, conf(1), []int{4, 7}, most, most)
	if !reflect.DeepEqual(v, judge.Verdict{Outs: one, Done: true, Explained: true, Whole: true}) {
		t.Errorf("%+v", v)
	}
	for _, n := range []int{0, -1, least} {
		v := judged(t, src, conf(1), nil, 2000, n)
		if v.Explained || v.Whole || texts(v.Outs) != "1" || !v.Done {
			t.Errorf("most %d: %+v", n, v)
		}
	}
}

// P28.1: programs that tell nothing, that end, that go on for ever, that wait, that fill memory: by few steps and by many, and with as many models as it takes and fewer.
func TestPrograms(t *testing.T) {
	t.Parallel()
	pair := "actor A(n) { let b = spawn B(self); send b, n; receive { x { out x; stop } } } actor B(a) { receive { k { send a, k + 1; stop } } } main A(4)"
	for _, x := range []struct {
		src, outs  string
		full, done bool
	}{
		{"actor A() { stop } main A()", "", false, true},
		{"actor A() { become A() } main A()", "", false, false},
		{"actor A() { receive { 1 { stop } } } main A()", "", false, false},
		{"actor A() { receive { x { out x; stop } after 3 { out 'late; stop } } } main A()", "a0", false, true},
		{"actor A(n) { out n; if n < 2 { become A(n + 1) } else { stop } } main A(0)", "0 1 2", false, true},
		{"actor A() { send self, 5; send self, 6; receive { x when 5 < x { out x; stop } } } main A()", "6", false, true},
		{pair, "5", false, true},
		{"actor A(x) { become A({x, x}) } main A(0)", "", true, true},
		{"actor A() { out 'x; send self, 1; become A() } main A()", "a0 a0 a0 a0 a0 a0", true, true},
		{"actor A() { out {1, self}; let a = spawn A(); stop } main A()", "{1,p0} {1,p1} {1,p2} {1,p3}", true, true},
		{"actor A(n, x) { if n < 64 { become A(n + 1, {x}) } else { out 1; out {x}; out 2; stop } } main A(0, 0)", "1", true, true},
	} {
		for harts := 1; harts <= 4; harts++ {
			c := conf(harts)
			if strings.Contains(x.src, "64") {
				c.Words = 512
			}
			// Six sends have a block each: the seventh one has none, behind a sixth out.
			v := judged(t, x.src, c, []int{3, harts}, 40000, 400)
			if strings.Contains(x.src, "'x") {
				x.outs = texts(v.Outs)
				if !strings.HasPrefix(x.outs, "a0 a0 a0 a0 a0 a0") {
					t.Errorf("%s", x.outs)
				}
			}
			if texts(v.Outs) != x.outs || v.Full != x.full || v.Done != x.done || v.Wrong != api.OK || v.Error != api.OK || v.At != 0 {
				t.Errorf("%s, %d harts: %+v", x.src, harts, v)
			}
			if !v.Explained || !v.Whole {
				t.Errorf("%s: %+v", x.src, v)
			}
			for _, n := range []int{1, 2, 100, 777, 3000} {
				judged(t, x.src, c, []int{harts}, n, 400)
			}
			for n := range 6 {
				judged(t, x.src, c, nil, 5000, n)
			}
		}
	}
}

// P28.1: thrown programs, configs and scripts: a verdict is what compile, run and model tell, one by one; P28.3: it is fine.
func TestVerdicts(t *testing.T) {
	t.Parallel()
	r := bench.Row(1)
	count := map[string]int{}
	for range 200 {
		src, c, script := anyProgram(&r), anyConf(&r), anyScript(&r, 600)
		steps, tries := r.Next(9000)-100, []int{0, 1, 10, 100, 1000}[r.Next(5)]
		kept := slices.Clone(script)
		v := judged(t, src, c, script, steps, tries)
		i, at, e := compile.Program([]byte(src), c)
		x, _ := run.New(i)
		x.Play(script, steps)
		found, all := model.Explain(i.Program, x.Outs(), tries)
		if v.At != at || v.Error != e || texts(v.Outs) != texts(x.Outs()) || v.Full != x.Full() || v.Wrong != x.Wrong() || v.Done != x.Done() || v.Explained != found || v.Whole != all {
			t.Fatalf("%s\n%+v: %+v", src, c, v)
		}
		if !slices.Equal(script, kept) {
			t.Fatal("the script is another one")
		}
		for what, ok := range map[string]bool{"full": v.Full, "done": v.Done, "explained": v.Explained && len(v.Outs) > 0, "not whole": !v.Whole} {
			if ok {
				count[what]++
			}
		}
	}
	for what, n := range map[string]int{"full": 15, "done": 30, "explained": 20, "not whole": 25} {
		if count[what] < n {
			t.Errorf("%s: %d times", what, count[what])
		}
	}
}

// P28.3: whatever bytes, config and script: the verdict is fine; and it is the same a second time.
func TestAnyBytes(t *testing.T) {
	t.Parallel()
	r := bench.Row(2)
	right := 0
	for range 400 {
		src := []byte(anyProgram(&r))
		for range r.Next(3) {
			n := r.Next(len(src))
			switch r.Next(3) {
			case 0:
				src[n] = byte(r.Next(128))
			case 1:
				src = slices.Delete(src, n, min(len(src), n+1+r.Next(4)))
			case 2:
				src = src[:n+1]
			}
		}
		c := anyConf(&r)
		if r.Next(8) == 0 {
			c.Budget = 0
		}
		script := anyScript(&r, 50)
		v := judged(t, string(src), c, script, 600, 60)
		if w := judge.Judge(src, c, script, 600, 60); !reflect.DeepEqual(v, w) {
			t.Fatalf("%+v, not %+v", w, v)
		}
		if v.Error == api.OK {
			right++
		} else if v.Outs != nil || v.Full || v.Wrong != api.OK || v.Done || v.Explained || v.Whole || v.At < 0 || v.At > len(src) {
			t.Fatalf("%+v", v)
		}
	}
	if right < 50 {
		t.Errorf("%d are programs", right)
	}
}

// P28.2: of all combinations of a verdict's parts.
func TestFine(t *testing.T) {
	outs := []api.Value{{Kind: api.ValInt, N: 1}}
	n := 0
	for _, e := range []api.Errno{api.OK, api.ErrArg, api.ErrLex, api.ErrImage, -1} {
		for _, w := range []api.Errno{api.OK, api.ErrNil, api.ErrIllegal, api.ErrValue, api.ErrHalt, -1} {
			for bits := range 32 {
				bit := func(k int) bool { return bits>>k&1 == 1 }
				v := judge.Verdict{At: n, Error: e, Wrong: w, Full: bit(0), Done: bit(1), Explained: bit(2), Whole: bit(3)}
				if bit(4) {
					v.Outs = outs
				}
				want := true
				if e == 0 {
					switch {
					case w != 0, bits&12 == 8:
						want = false
					}
				}
				if judge.Fine(v) != want {
					t.Errorf("%+v: %t", v, !want)
				}
				n++
			}
		}
	}
}
