package run_test

import (
	"slices"
	"testing"

	"postbag/api"
	"postbag/bench"
	"postbag/machine"
	"postbag/run"
)

// anyNumber tells a number of a script: small, of a choice that there is, or any.
func anyNumber(r *bench.Row) int {
	switch r.Next(6) {
	case 0:
		return []int{0, -1, 1, least, least + 1, most, most - 1, 1 << 31, -1 << 31}[r.Next(9)]
	case 1:
		return int(r.Word())
	case 2:
		return -r.Next(40)
	}
	return r.Next(40)
}

// anyScript tells a script of so many numbers.
func anyScript(r *bench.Row, n int) []int {
	l := make([]int, n)
	for k := range l {
		l[k] = anyNumber(r)
	}
	return l
}

// P27.2, P27.3: each choice is machine's Pick of the same number, whatever number that is, and what is told by it is noted.
func TestDo(t *testing.T) {
	r := bench.Row(2)
	ended, outs := 0, 0
	for range 60 {
		i := compiled(t, anyProgram(&r), anyConf(&r))
		x, p := begun(t, i), told(t, i)
		for k := range 4000 {
			n := anyNumber(&r)
			c, e := x.Do(n)
			want, f := p.do(n)
			if c != want || e != f {
				t.Fatalf("%d: %+v, error %d, not %+v, %d", n, c, int(e), want, int(f))
			}
			if e != api.OK {
				ended++
				break
			}
			if k%64 == 0 {
				p.held(x)
			}
		}
		p.wholly(x)
		outs += len(x.Outs())
	}
	if ended < 10 || outs < 100 {
		t.Errorf("%d ended, %d values", ended, outs)
	}
}

// P27.2: numbers at the ends of what there is, of one choice and of several.
func TestDoNumbers(t *testing.T) {
	i := compiled(t, example, conf(3))
	for _, n := range []int{0, 1, 2, 3, 4, 5, -1, -2, -3, -4, least, least + 1, least + 2, most, most - 1, most - 2} {
		x := begun(t, i)
		m := x.Machine()
		for range 200 {
			want, f := m.Pick(n)
			if c, e := x.Do(n); c != want || e != f {
				t.Fatalf("%d: %+v, error %d, not %+v, %d", n, c, int(e), want, int(f))
			}
		}
		same(t, x.Machine(), m, i.Layout.End)
	}
}

// P27.2: where there is no choice any more none is done, and nothing is another one.
func TestDoDone(t *testing.T) {
	i := compiled(t, example, conf(2))
	x := begun(t, i)
	x.Play(nil, 5000)
	before, m := stateOf(x), x.Machine()
	if before.outs != "1 {2}" || !before.done || before.steps < 100 || before.steps > 2000 {
		t.Fatalf("%+v", before)
	}
	for _, n := range []int{0, 1, -1, least, most} {
		if c, e := x.Do(n); c != (machine.Choice{}) || e != api.ErrHalt {
			t.Errorf("%d: %+v, error %d", n, c, int(e))
		}
		if done := x.Play([]int{n}, 10); done != 0 {
			t.Errorf("%d: %d choices", n, done)
		}
		x.Fair(10)
	}
	if after := stateOf(x); after != before {
		t.Errorf("%+v, not %+v", after, before)
	}
	same(t, x.Machine(), m, i.Layout.End)
}

// P27.3: the document's example, on one hart and more: two values, then there is no choice any more.
func TestExample(t *testing.T) {
	for harts := 1; harts <= 8; harts++ {
		x := begun(t, compiled(t, example, conf(harts)))
		n := x.Play(nil, 20000)
		if s := stateOf(x); s != (state{outs: "1 {2}", done: true, steps: n}) || n >= 20000 || harts == 1 && n >= 1000 {
			t.Errorf("%d harts: %+v", harts, s)
		}
	}
}

// P27.2: a script's numbers, and behind its end those of the row, from its first one on: these are known.
func TestPlayRow(t *testing.T) {
	row := []int{0, 16838, 5758, 10113, 17515, 31051, 5627, 23010, 7419, 16212, 4086, 2749, 12767, 9084, 12060, 32225, 17543, 25089, 21183, 25137}
	i := compiled(t, example, conf(8))
	for _, script := range [][]int{nil, {}, {0}, {7}, {-3}, {least, most}, {1, 2, 3, 4, 5, 6, 7, 8, 9}, {16838, 5758}} {
		for times := range len(row) + 1 {
			x, y := begun(t, i), begun(t, i)
			if n := x.Play(script, times); n != times {
				t.Fatalf("%v: %d choices of %d", script, n, times)
			}
			for k, n := range slices.Concat(script, row)[:times] {
				if _, e := y.Do(n); e != api.OK {
					t.Fatalf("number %d: error %d", k, int(e))
				}
			}
			if x.Steps() != times || stateOf(x) != stateOf(y) {
				t.Fatalf("%v: %+v, not %+v", script, stateOf(x), stateOf(y))
			}
			same(t, x.Machine(), y.Machine(), i.Layout.End)
		}
	}
}

// P27.2: no choices, and fewer.
func TestPlayMost(t *testing.T) {
	i := compiled(t, example, conf(2))
	x := begun(t, i)
	for _, times := range []int{0, -1, least} {
		if n := x.Play([]int{1, 2, 3}, times); n != 0 || stateOf(x) != (state{}) {
			t.Errorf("%d: %d, %+v", times, n, stateOf(x))
		}
	}
	n := x.Play([]int{3, 1}, most)
	if s := stateOf(x); !s.done || s.steps != n || s.outs != "1 {2}" {
		t.Errorf("%d: %+v", n, s)
	}
	for _, times := range []int{n - 1, n, n + 1} {
		y := begun(t, i)
		if m := y.Play([]int{3, 1}, times); m != min(times, n) || y.Done() != (times >= n) || y.Steps() != m {
			t.Errorf("%d of %d: %d, %+v", times, n, m, stateOf(y))
		}
	}
}

// P27.2: thrown scripts, shorter and longer than what is played: a script in one go, in two, and choice by choice come to the same; what is behind a script begins anew in each go.
func TestPlayParts(t *testing.T) {
	r := bench.Row(3)
	for range 60 {
		i := compiled(t, anyProgram(&r), anyConf(&r))
		script := anyScript(&r, r.Next(600))
		before := slices.Clone(script)
		cut := r.Next(len(script) + 1)
		p, x, y, z := told(t, i), begun(t, i), begun(t, i), begun(t, i)
		for k, times := range []int{len(script), r.Next(900), -r.Next(9), r.Next(30)} {
			a := p.play(script, times)
			if b := x.Play(script, times); a != b {
				t.Fatalf("%d choices, not %d", b, a)
			}
			p.held(x)
			if k > 0 {
				continue
			}
			if n := y.Play(script[:cut], cut) + y.Play(script[cut:], len(script)-cut); n != a {
				t.Fatalf("in two: %d choices, not %d", n, a)
			}
			for _, n := range script {
				z.Do(n)
			}
			p.wholly(y)
			p.wholly(z)
		}
		p.wholly(x)
		if !slices.Equal(script, before) {
			t.Fatal("the script is another one")
		}
	}
}

// P27.3: a run that no call made, and none.
func TestUnmade(t *testing.T) {
	for _, r := range []*run.Run{nil, {}, new(run.Run)} {
		c, e := r.Do(3)
		if c != (machine.Choice{}) || e != api.ErrNil {
			t.Errorf("%+v, error %d", c, int(e))
		}
		if n := r.Play([]int{1, 2}, 5); n != 0 {
			t.Errorf("%d choices", n)
		}
		r.Fair(3)
		r.Fair(-1)
		if l := r.Outs(); len(l) != 0 {
			t.Errorf("%v", l)
		}
		if r.Full() || r.Done() || r.Steps() != 0 || r.Machine() != nil || r.Wrong() != api.ErrNil {
			t.Errorf("%t, %t, %d, %v, %d", r.Full(), r.Done(), r.Steps(), r.Machine(), int(r.Wrong()))
		}
	}
}
