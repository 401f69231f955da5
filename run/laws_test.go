package run_test

import (
	"slices"
	"testing"

	"postbag/api"
	"postbag/bench"
)

// P27.4: thrown programs and configs, on one to eight harts, by scripts, by the row and by rounds: nothing is wrong, at any time.
func TestSound(t *testing.T) {
	t.Parallel()
	r := bench.Row(8)
	ended, full, outs := 0, 0, 0
	for n := range 240 {
		c := anyConf(&r)
		c.Harts = 1 + n%8
		src := anyProgram(&r)
		x := begun(t, compiled(t, src, c))
		for k := range 30 {
			if k%3 == 0 {
				x.Fair(r.Next(400))
			} else {
				x.Play(anyScript(&r, r.Next(300)), r.Next(800))
			}
			if e := x.Wrong(); e != api.OK {
				t.Fatalf("%s\n%+v: error %d, %s", src, c, int(e), texts(x.Outs()))
			}
		}
		if x.Done() {
			ended++
		}
		if x.Full() {
			full++
		}
		outs += len(x.Outs())
	}
	if ended < 60 || full < 30 || outs < 400 {
		t.Errorf("%d ended, %d full, %d values", ended, full, outs)
	}
}

// P27.4: configs of least room, and of most.
func TestSoundEnds(t *testing.T) {
	t.Parallel()
	r := bench.Row(9)
	for n := range 60 {
		c := api.Conf{Harts: 1 + n%8, Actors: 1, Blocks: 1, Words: 8, Budget: 1}
		if n%3 == 0 {
			c = api.Conf{Harts: 8, Actors: 64, Blocks: 256, Words: 1024, Budget: 1000}
		}
		src := anyProgram(&r)
		x := begun(t, compiled(t, src, c))
		x.Play(anyScript(&r, 100), 5000)
		if e := x.Wrong(); e != api.OK {
			t.Fatalf("%s\n%+v: error %d, %s", src, c, int(e), texts(x.Outs()))
		}
	}
}

// P27.5: two runs of one image by one script tell the same, and go through the same choices; so do runs of an image that was compiled anew.
func TestAgain(t *testing.T) {
	t.Parallel()
	r := bench.Row(10)
	for range 60 {
		src, c := anyProgram(&r), anyConf(&r)
		script := anyScript(&r, r.Next(800))
		i := compiled(t, src, c)
		a, b, d := begun(t, i), begun(t, i), begun(t, compiled(t, src, c))
		for range 4 {
			most, rounds := r.Next(2500), r.Next(60)
			n, m := a.Play(script, most), d.Play(slices.Clone(script), most)
			if k := b.Play(script, most); k != n || m != n {
				t.Fatalf("%d choices, %d, %d", n, k, m)
			}
			a.Fair(rounds)
			b.Fair(rounds)
			d.Fair(rounds)
			if s := stateOf(a); s != stateOf(b) || s != stateOf(d) {
				t.Fatalf("%+v, %+v, %+v", s, stateOf(b), stateOf(d))
			}
		}
		same(t, a.Machine(), b.Machine(), i.Layout.End)
		same(t, a.Machine(), d.Machine(), i.Layout.End)
	}
}

// P27.5: runs of one image that are played one choice each, by turns, are as if each were alone.
func TestApart(t *testing.T) {
	t.Parallel()
	r := bench.Row(11)
	for range 20 {
		i := compiled(t, anyProgram(&r), anyConf(&r))
		a, b := begun(t, i), begun(t, i)
		p, q := told(t, i), told(t, i)
		for range 2000 {
			n, m := anyNumber(&r), anyNumber(&r)
			a.Do(n)
			b.Do(m)
			p.do(n)
			q.do(m)
		}
		p.wholly(a)
		q.wholly(b)
	}
}
