package run_test

import (
	"testing"

	"postbag/api"
	"postbag/bench"
	"postbag/items"
	"postbag/machine"
)

// An end is how a hart stops, and with which error.
type end struct {
	name string
	lays func(w text, own string)
	e    api.Errno
}

func ends() []end {
	return []end{
		{"as it is to", func(w text, _ string) { w.ends() }, api.OK},
		{"at an ebreak", func(w text, _ string) { w.Inst(api.Inst{Op: api.OpEbreak}) }, api.OK},
		{"never", func(w text, own string) {
			w.Label("for ever " + own)
			w.Jump(0, "for ever "+own)
		}, api.OK},
		{"at no instruction", func(w text, _ string) { w.Jump(0, "nothing") }, api.ErrIllegal}, // behind the code words are 0
		{"out of memory", func(w text, _ string) {
			w.Const(5, 1<<40)
			w.Load(6, 5, 0)
		}, api.ErrOut},
		{"at a misaligned place", func(w text, _ string) {
			w.Const(5, 4)
			w.Store(6, 5, 0)
		}, api.ErrAlign},
		{"at an instruction out of memory", func(w text, _ string) {
			w.Const(5, 1<<50)
			w.Inst(api.Inst{Op: api.OpJalr, Rs1: 5})
		}, api.ErrOut},
	}
}

// P27.3: harts that stop with an error: the first hart's counts, whichever stopped first; an error counts ahead of what is told that may not be.
func TestWrong(t *testing.T) {
	list := ends()
	r := bench.Row(6)
	for range 120 {
		c := conf(1 + r.Next(4))
		w := boots()
		want := api.OK
		odd, tells := r.Next(3) == 0, r.Next(c.Harts)
		for h := range c.Harts {
			next := "hart " + string(rune('0'+h))
			w.Const(7, uint64(h))
			w.Branch(api.OpBne, items.First, 7, next)
			w.Const(7, uint64(1+r.Next(30))) // so that no hart's order is that of their numbers
			w.Label("again " + next)
			w.Number(api.OpAddi, 7, 7, -1)
			w.Branch(api.OpBne, 7, items.Zero, "again "+next)
			if odd && h == tells {
				w.tells(3, 0, 0)
			}
			e := list[r.Next(len(list))]
			e.lays(w, next)
			if want == api.OK {
				want = e.e
			}
			w.Label(next)
		}
		w.Label("nothing")
		i := w.image(t, c)
		x, p := begun(t, i), told(t, i)
		if x.Wrong() != api.OK {
			t.Fatal(int(x.Wrong()))
		}
		for range 1500 {
			n := r.Next(1 << 20)
			x.Do(n)
			p.do(n)
		}
		p.wholly(x)
		if want == api.OK && odd {
			want = api.ErrValue
		}
		if x.Wrong() != want {
			t.Errorf("error %d, not %d", int(x.Wrong()), int(want))
		}
	}
}

// P27.3: each of these errors by itself, while another hart goes on, and when all have stopped.
func TestWrongAlone(t *testing.T) {
	for _, e := range ends() {
		for _, odd := range []bool{false, true} {
			w := boots()
			w.Branch(api.OpBeq, items.First, items.Zero, "first")
			e.lays(w, "")
			w.Label("first")
			if odd {
				w.tells(codeValue, 1<<40+atom, 0)
			}
			w.ends()
			w.Label("nothing")
			i := w.image(t, conf(2))
			r := begun(t, i)
			r.Fair(200)
			want := e.e
			if odd && want == api.OK {
				want = api.ErrValue
			}
			if a := r.Wrong(); a != want || r.Done() != (e.name != "never") || r.Full() || len(r.Outs()) != 0 {
				t.Errorf("%s, %t: error %d, not %d, %+v", e.name, odd, int(a), int(want), stateOf(r))
			}
		}
	}
}

// P27.3: as long as something is open there is a choice, though all harts have stopped; behind it there is none.
func TestDoneOpen(t *testing.T) {
	w := boots()
	w.stores(laid(t, conf(1)).Actors, 1, 2)
	i := w.image(t, conf(1)) // no instruction stands behind it
	r := begun(t, i)
	for k := 0; r.Machine().Stopped(0) == api.OK; k++ {
		if r.Done() {
			t.Fatal("it is done")
		}
		r.Do(0)
	}
	if r.Machine().Open(0) != 2 || r.Done() || r.Wrong() != api.ErrIllegal {
		t.Errorf("%d are open, %+v", r.Machine().Open(0), stateOf(r))
	}
	if n := r.Play(nil, 10); n != 2 || !r.Done() || r.Machine().Open(0) != 0 {
		t.Errorf("%d choices, %+v", n, stateOf(r))
	}
}

// P27.3: the machine that is told is a clone: what is done with it changes no run, nor the other way round.
func TestMachine(t *testing.T) {
	r := bench.Row(7)
	for range 30 {
		i := compiled(t, anyProgram(&r), anyConf(&r))
		x := begun(t, i)
		x.Play(anyScript(&r, 50), r.Next(1500))
		before := stateOf(x)
		a, b := x.Machine(), x.Machine()
		same(t, a, b, i.Layout.End)
		for range 300 {
			a.Pick(r.Next(1 << 20))
		}
		if stateOf(x) != before {
			t.Fatalf("%+v, not %+v", stateOf(x), before)
		}
		same(t, x.Machine(), b, i.Layout.End)
		kept := seen(b)
		script := anyScript(&r, 300)
		n := x.Play(script, 300)
		if seen(b) != kept {
			t.Fatal("the clone is another one")
		}
		for _, k := range script[:n] {
			if _, e := b.Pick(k); e != api.OK {
				t.Fatal(int(e))
			}
		}
		same(t, x.Machine(), b, i.Layout.End)
	}
}

// P27.3: lists that were handed out and written into, and those that grow behind their length, change no run and no other answer.
func TestOutsOwn(t *testing.T) {
	i := compiled(t, "actor A(x) { out x; out {x, x}; out {{1}, {{2, 'a}}}; receive { _ { out x; stop } after 5 { out {x}; stop } } } main A({1, {2, {3}}})", conf(2))
	r := begun(t, i)
	n := 0
	for len(r.Outs()) < 3 {
		n += r.Play([]int{1}, 40)
	}
	want := texts(r.Outs())
	var spoil func(l []api.Value)
	spoil = func(l []api.Value) {
		for k := range l {
			spoil(l[k].Args)
			l[k] = api.Value{Kind: api.ValAtom, N: 77}
		}
		_ = append(l, api.Value{Kind: api.ValPid, N: 5})
	}
	kept, spoilt := r.Outs(), r.Outs()
	spoil(spoilt)
	if a, b := texts(r.Outs()), texts(kept); a != want || b != want {
		t.Errorf("%s, %s, not %s", a, b, want)
	}
	l := kept[1].Args // both parts are one value, and stand apart
	spoil(l[0].Args)
	if a := texts(l[1:]); a != "{1,{2,{3}}}" {
		t.Errorf("%s", a)
	}
	r.Play(nil, 5000)
	want += " {{1,{2,{3}}}}"
	if s := stateOf(r); s.outs != want || !s.done {
		t.Errorf("%+v, not %s", s, want)
	}
	if len(spoilt) != 3 || spoilt[0].N != 77 {
		t.Errorf("%v", spoilt)
	}
}

// P27.3: choices are told as values: of a hart, of a kind, and of a place among what is open.
func TestChoices(t *testing.T) {
	i := compiled(t, example, conf(2))
	r := begun(t, i)
	kinds := map[int]int{}
	for n := range 2000 {
		c, e := r.Do(n * n)
		if e != api.OK {
			break
		}
		kinds[c.Kind]++
		if c.Hart < 0 || c.Hart > 1 || c.Kind == machine.Issue && c.N != 0 || c.N < 0 || c.N >= api.MaxPending {
			t.Errorf("%+v", c)
		}
	}
	if kinds[machine.Issue] == 0 || kinds[machine.Perform] == 0 {
		t.Error(kinds)
	}
}
