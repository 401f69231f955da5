package sched_test

import (
	"math"
	"slices"
	"strings"
	"testing"

	"postbag/api"
	"postbag/bench"
	"postbag/blocks"
	"postbag/code"
	"postbag/copying"
	"postbag/image"
	"postbag/inst"
	"postbag/machine"
	"postbag/mailbox"
	"postbag/sched"
)

// listed are the labels that the chapter lists, and the routines' of the chapters ahead of it.
func listed() []string {
	l := []string{"boot", "sched", "sched.skip", "sched.end", "new", "send", "tell", "full", "stop", "ensure",
		"mailbox.init", "push", "pop", "alloc", "free", "collect"}
	for kind := copying.Out; kind <= copying.Move; kind++ {
		l = append(l, copying.Name(kind))
	}
	return l
}

// anyConf tells a config that may be.
func anyConf(r *bench.Row) api.Conf {
	return api.Conf{Harts: 1 + r.Next(8), Actors: 1 + r.Next(64), Blocks: 1 + r.Next(256), Words: 8 + r.Next(1017), Budget: 1 + r.Next(1000)}
}

// P24.1: each label is there once, main is not; all stand in one code together, which begins with boot, and of which each instruction may be; all routines of the chapters ahead are in it as they are there.
func TestLabels(t *testing.T) {
	r := bench.Row(1)
	for _, c := range append([]api.Conf{{Harts: 8, Actors: 64, Blocks: 256, Words: 1024, Budget: 1000}, {Harts: 1, Actors: 1, Blocks: 1, Words: 8, Budget: 1}, anyConf(&r)}, anyConf(&r), anyConf(&r)) {
		for _, n := range []int{1, 240, 256} {
			l, e := image.Lay(c, 1000+r.Next(1000), n)
			if e != api.OK {
				t.Fatal(int(e))
			}
			all := sched.Items(c, l)
			if all[0] != (api.Item{Kind: api.ItemLabel, Name: "boot"}) {
				t.Errorf("it begins with %+v", all[0])
			}
			is := map[string]int{}
			for _, i := range all {
				if i.Kind == api.ItemLabel {
					is[i.Name]++
				}
				if i.Kind == api.ItemInst && !inst.Good(i.Inst) {
					t.Errorf("%+v", i)
				}
			}
			for _, name := range listed() {
				if is[name] != 1 {
					t.Errorf("%s is there %d times", name, is[name])
				}
			}
			for name := range is {
				head, _, _ := strings.Cut(name, ".")
				if !slices.Contains(listed(), name) && !slices.Contains(listed(), head) && head != "copy" {
					t.Errorf("and %s", name)
				}
			}
			if _, _, e := code.Assemble(all, 0); e != api.ErrLabel {
				t.Errorf("without main: error %d", int(e))
			}
			if _, _, e := code.Assemble(append(all, mainOf()...), 0); e != api.OK {
				t.Errorf("with main: error %d", int(e))
			}
			parts(t, all, l)
		}
	}
}

// parts tells it where a routine of a chapter ahead does not stand in the code.
func parts(t *testing.T, all []api.Item, l api.Layout) {
	t.Helper()
	of := [][]api.Item{mailbox.Init(), mailbox.Push(), mailbox.Pop(), blocks.Alloc(l), blocks.Free(l), copying.Collect()}
	for kind := copying.Out; kind <= copying.Move; kind++ {
		of = append(of, copying.Copy(kind))
	}
	for _, part := range of {
		at := slices.Index(all, part[0])
		if at < 0 || at+len(part) > len(all) || !slices.Equal(all[at:at+len(part)], part) {
			t.Errorf("%s is another one", part[0].Name)
		}
	}
}

// Rule 1: whatever config and layout, there is an answer; and each asker's is its own.
func TestAnything(t *testing.T) {
	for _, n := range []int{0, -1, 1, 2047, 2048, 1 << 40, math.MaxInt, math.MinInt} {
		c := api.Conf{Harts: n, Actors: n, Blocks: n, Words: n, Budget: n}
		for _, l := range []api.Layout{{}, {Globals: uint64(n), Actors: uint64(n), ActorSize: uint64(n), Blocks: uint64(n), BlockSize: uint64(n), Slots: n}} {
			a := sched.Items(c, l)
			want := slices.Clone(a)
			clear(a)
			if b := sched.Items(c, l); !slices.Equal(b, want) {
				t.Errorf("%d: what was told ahead of it was written into, and it is another one", n)
			}
		}
	}
}

// The chapter's example 1; P24.3: without actors all harts stop, whatever their number.
func TestExample(t *testing.T) {
	r := bench.Row(2)
	for harts := 1; harts <= 8; harts++ {
		w := begun("main")
		w.tells(integer(5))
		w.leaves()
		h := built(t, conf(harts, 1+r.Next(10)), w.Items())
		for _, s := range bench.Scripts(&r, 24) {
			x := h.started(t)
			played(t, x, s)
			if l, full := told(t, x); !slices.Equal(l, []uint64{20}) || full || x.Events()[0].Hart != 0 {
				t.Fatalf("%d, %t", l, full)
			}
			h.ended(t, x, false)
		}
	}
}

// P24.1: boot gives registers 9, 18, 19, 22 what they are to have, and hart 0 goes on at main, the others at sched; whatever they had.
func TestBoot(t *testing.T) {
	r := bench.Row(3)
	for harts := 1; harts <= 8; harts++ {
		c := anyConf(&r)
		c.Harts = harts
		w := begun("main")
		for _, n := range []int{9, 18, 19, 22} {
			w.Const(n, 77)
		}
		w.Copy(10, 0)
		w.Const(5, 1)
		w.Branch(api.OpBne, 23, 5, "again")
		w.leaves()
		w.Label("again")
		w.Const(23, 1)
		w.goes("boot")
		h := built(t, c, w.Items())
		x := h.started(t)
		main := 0
		for n := range harts {
			for k := 0; x.PC(n) != h.at["sched"] && k < 100; k++ {
				if x.PC(n) == h.at["main"] {
					h.booted(t, x, n)
					main++
				}
				x.Choose(machine.Choice{Hart: n, Kind: machine.Issue})
				if x.Open(n) > 0 {
					break
				}
			}
			if n > 0 {
				h.booted(t, x, n)
			}
		}
		if main != 2 {
			t.Errorf("%d harts: %d times at main", harts, main)
		}
	}
}

func (h *house) booted(t testing.TB, x *machine.Machine, n int) {
	t.Helper()
	for r, want := range map[int]uint64{9: h.l.Globals, 18: uint64(n), 19: uint64(h.c.Actors), 22: 0} {
		if v, ok := x.X(n, r); v != want || !ok {
			t.Errorf("hart %d, register %d: %d, not %d", n, r, v, want)
		}
	}
}

// P24.1: a hart that goes to sched.end stops.
func TestEnd(t *testing.T) {
	w := begun("main")
	w.Const(17, 9)
	w.goes("sched.end")
	h := built(t, conf(1, 3), w.Items())
	x := h.started(t)
	played(t, x, bench.Script{Row: 5})
	if len(x.Events()) != 0 {
		t.Errorf("%+v", x.Events())
	}
	if v, _ := x.X(0, 17); v != 0 || read(t, x, h.global(image.GLive)) != 1 {
		t.Errorf("register 17 has %d", v)
	}
}
