package run_test

import (
	"reflect"
	"slices"
	"testing"

	"postbag/api"
	"postbag/bench"
	"postbag/compile"
	"postbag/image"
	"postbag/items"
	"postbag/machine"
	"postbag/run"
)

// example is the document's own.
const example = "actor A() { out 1; out {2}; stop } main A()"

// P27.1: a run has the image's memory, and so many harts, each of which is at boot and has done nothing.
func TestNew(t *testing.T) {
	r := bench.Row(1)
	for harts := 1; harts <= api.MaxHarts; harts++ {
		c := anyConf(&r)
		c.Harts = harts
		i := compiled(t, anyProgram(&r), c)
		x := begun(t, i)
		if a, b := stateOf(x), (state{}); a != b {
			t.Fatalf("%+v", a)
		}
		m, _ := image.Build(i.Conf, i.Layout, i.Words)
		boot, _ := compile.At(i, "boot")
		want, e := machine.New(m, slices.Repeat([]uint64{boot}, harts))
		if e != api.OK {
			t.Fatal(int(e))
		}
		same(t, x.Machine(), want, i.Layout.End)
		if x.Machine().Harts() != harts {
			t.Errorf("%d harts", x.Machine().Harts())
		}
	}
}

// P27.1: an image whose Conf may not be, whose Layout is another one, or whose Words are one fewer or one more, has no run.
func TestNewWrongImage(t *testing.T) {
	i := compiled(t, example, conf(2))
	refused := func(what string, alter func(i *compile.Image)) {
		t.Helper()
		j := i
		j.Words = slices.Clone(i.Words)
		j.Labels = slices.Clone(i.Labels)
		alter(&j)
		if r, e := run.New(j); r != nil || e != api.ErrArg {
			t.Errorf("%s: %v, error %d", what, r, int(e))
		}
	}
	refused("nothing", func(j *compile.Image) { *j = compile.Image{} })
	for k := range reflect.TypeFor[api.Conf]().NumField() {
		name := reflect.TypeFor[api.Conf]().Field(k).Name
		for _, v := range []int{0, -1, least, most, 1025} {
			refused(name, func(j *compile.Image) { reflect.ValueOf(&j.Conf).Elem().Field(k).SetInt(int64(v)) })
		}
	}
	refused("more actors than the layout has", func(j *compile.Image) { j.Conf.Actors++ })
	refused("more blocks than the layout has", func(j *compile.Image) { j.Conf.Blocks++ })
	refused("greater heaps than the layout has", func(j *compile.Image) { j.Conf.Words++ })
	for k := range reflect.TypeFor[api.Layout]().NumField() {
		f := reflect.TypeFor[api.Layout]().Field(k)
		for _, v := range []int64{1, -1, 64, -64, 1 << 40} {
			refused(f.Name, func(j *compile.Image) {
				field := reflect.ValueOf(&j.Layout).Elem().Field(k)
				if field.CanUint() {
					field.SetUint(field.Uint() + uint64(v))
				} else {
					field.SetInt(field.Int() + v)
				}
			})
		}
	}
	full := func() compile.Image {
		w := boots()
		w.ends()
		return w.image(t, conf(2))
	}()
	for _, n := range []int{0, 1, codeWords - 16, codeWords + 16} { // a line has 16 of them
		j := full
		j.Words = append(slices.Clone(full.Words), make([]uint32, 16)...)[:n]
		if r, e := run.New(j); r != nil || e != api.ErrArg {
			t.Errorf("%d words: error %d", n, int(e))
		}
	}
	refused("no words", func(j *compile.Image) { j.Words = nil })
	refused("words for another line", func(j *compile.Image) { j.Words = append(j.Words, make([]uint32, 16)...) })
}

// P27.1: one word fewer or one more is refused just where the layout is another one then.
func TestNewWords(t *testing.T) {
	for n := 30; n < 70; n++ {
		l, e := image.Lay(conf(1), n, 3)
		if e != api.OK {
			t.Fatal(int(e))
		}
		for m := n - 2; m <= n+2; m++ {
			i := compile.Image{Conf: conf(1), Layout: l, Words: make([]uint32, m), Labels: []api.Label{{Name: "boot"}}}
			other, _ := image.Lay(conf(1), m, 3)
			want := api.OK
			if other != l {
				want = api.ErrArg
			}
			if r, e := run.New(i); e != want || (r == nil) != (e != api.OK) {
				t.Errorf("%d words for %d: error %d, not %d", m, n, int(e), int(want))
			}
		}
	}
}

// P27.1: a run begins at boot, wherever that stands among the labels and in memory; without it there is none.
func TestNewBoot(t *testing.T) {
	i := compiled(t, example, conf(2))
	at, _ := compile.At(i, "def.0")
	for _, l := range [][]api.Label{
		nil, {}, {{Name: ""}}, {{Name: "Boot"}}, {{Name: "boot "}}, {{Name: "main", At: 4}, {Name: "boo", At: 8}},
	} {
		j := i
		j.Labels = l
		if r, e := run.New(j); r != nil || e != api.ErrArg {
			t.Errorf("%v: error %d", l, int(e))
		}
	}
	for _, x := range []struct {
		l    []api.Label
		want uint64
	}{
		{[]api.Label{{Name: "boot"}}, 0},
		{[]api.Label{{Name: "a", At: 4}, {Name: "main", At: 8}, {Name: "boot", At: at}}, at},
		{[]api.Label{{Name: "boot", At: at}, {Name: "boot", At: 0}}, at},
		{[]api.Label{{Name: "boot", At: i.Layout.Globals}}, i.Layout.Globals},
		{[]api.Label{{Name: "boot", At: i.Layout.End}}, i.Layout.End},
		{[]api.Label{{Name: "boot", At: 1<<64 - 4}}, 1<<64 - 4},
		{[]api.Label{{Name: "boot", At: 2}}, 2},
	} {
		j := i
		j.Labels = x.l
		r := begun(t, j)
		for h := range 2 {
			if pc := r.Machine().PC(h); pc != x.want {
				t.Errorf("%v: hart %d is at %d", x.l, h, pc)
			}
		}
		told(t, j).wholly(r)
		p := told(t, j)
		if a, b := r.Play(nil, 300), p.play(nil, 300); a != b {
			t.Errorf("%v: %d choices, not %d", x.l, a, b)
		}
		p.wholly(r)
	}
}

// P27.1: two wrong things at once are one error; a run keeps nothing of the image's lists.
func TestNewKeepsNothing(t *testing.T) {
	if r, e := run.New(compile.Image{Conf: conf(1), Labels: []api.Label{{Name: "boot"}}}); r != nil || e != api.ErrArg {
		t.Errorf("error %d", int(e))
	}
	i := compiled(t, example, conf(2))
	words, labels := slices.Clone(i.Words), slices.Clone(i.Labels)
	r, other := begun(t, i), begun(t, i)
	if !slices.Equal(words, i.Words) || !slices.Equal(labels, i.Labels) {
		t.Error("the image is another one")
	}
	clear(i.Words)
	clear(i.Labels)
	i.Program.Defs[0].Body = api.Body{}
	r.Play(nil, 5000)
	if s := stateOf(r); s.outs != "1 {2}" || !s.done || s.wrong != api.OK || s.full {
		t.Errorf("%+v", s)
	}
	if s := stateOf(other); s != (state{}) {
		t.Errorf("%+v of another run", s)
	}
}

// P27.1: an image of words and labels alone, which no program was compiled to.
func TestNewOwnCode(t *testing.T) {
	w := boots()
	w.Branch(api.OpBne, items.First, items.Zero, "others")
	w.tells(codeValue, 20, 0)
	w.Label("others")
	w.ends()
	for harts := 1; harts <= 3; harts++ {
		i := w.image(t, conf(harts))
		r := begun(t, i)
		n := r.Play(nil, 1000)
		if s := stateOf(r); s != (state{outs: "5", done: true, steps: n}) {
			t.Errorf("%+v", s)
		}
	}
}
