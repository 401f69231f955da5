package items_test

import (
	"slices"
	"testing"

	"postbag/api"
	"postbag/code"
	"postbag/inst"
	"postbag/items"
	"postbag/listing"
)

// text is the lines that items become at 0.
func text(t *testing.T, l []api.Item) string {
	t.Helper()
	words, _, e := code.Assemble(l, 0)
	if e != api.OK {
		t.Fatalf("error %d", int(e))
	}
	var is []api.Inst
	for _, w := range words {
		i, e := inst.Decode(w)
		if e != api.OK {
			t.Fatalf("%08x is no instruction's word", w)
		}
		is = append(is, i)
	}
	return listing.Lines(is)
}

func TestWriter(t *testing.T) {
	w := items.Begin("a")
	w.Number(api.OpAndi, 5, 6, -7)
	w.Both(api.OpSub, 5, 6, 7)
	w.Copy(5, 6)
	w.Load(5, 6, 3)
	w.Store(5, 6, -2)
	w.Fence()
	w.Const(5, 4096)
	w.Branch(api.OpBltu, 5, 6, "a")
	w.Label("b")
	w.Jump(1, "b")
	w.Inst(api.Inst{Op: api.OpAmoaddd, Rd: 5, Rs1: 6, Rs2: 7, Aq: true})
	w.Addr(5, "b")
	w.Back()
	i, n, e := listing.Read("andi x5 x6 -7\nsub x5 x6 x7\naddi x5 x6 0\nld x5 x6 24\nsd x6 x5 -16\nfence 51\nlui x5 4096\nbltu x5 x6 -28\njal x1 0\namoadd.d.aq x5 x6 x7\nlui x5 0\naddi x5 x5 32\njalr x0 x1 0\n")
	if e != api.OK {
		t.Fatalf("line %d: error %d", n, int(e))
	}
	if got, want := text(t, w.Items()), listing.Lines(i); got != want {
		t.Errorf("%s, not\n%s", got, want)
	}
	_, labels, _ := code.Assemble(w.Items(), 0)
	if want := []api.Label{{Name: "a"}, {Name: "b", At: 32}}; !slices.Equal(labels, want) {
		t.Errorf("%v", labels)
	}
}

// Begin's label stands first; a Writer of its own has nothing at first.
func TestBegin(t *testing.T) {
	if l := items.Begin("a.b").Items(); !slices.Equal(l, []api.Item{{Kind: api.ItemLabel, Name: "a.b"}}) {
		t.Errorf("%+v", l)
	}
	var w items.Writer
	if l := w.Items(); len(l) != 0 {
		t.Errorf("%+v", l)
	}
}

func TestSpare(t *testing.T) {
	if l := items.Spare(); l != [7]int{5, 6, 7, 28, 29, 30, 31} {
		t.Error(l)
	}
}

func TestOwn(t *testing.T) {
	a, b := items.Own("a"), items.Own("b.c")
	if a("x") != "a.x" || b("x") != "b.c.x" || a("") != "a." {
		t.Error(a("x"), b("x"), a(""))
	}
}

func TestOffset(t *testing.T) {
	if items.Offset(0) != 0 || items.Offset(3) != 24 || items.Offset(-1) != -8 {
		t.Error(items.Offset(0), items.Offset(3), items.Offset(-1))
	}
}
