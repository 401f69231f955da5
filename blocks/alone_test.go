package blocks_test

import (
	"slices"
	"testing"

	"postbag/api"
	"postbag/bench"
	"postbag/blocks"
	"postbag/code"
	"postbag/image"
	"postbag/inst"
)

// The chapter's example 1.
func TestTwoBlocks(t *testing.T) {
	y := laid(t, small(2), 10, 4)
	a, b, none := y.alloc(t), y.alloc(t), y.alloc(t)
	if a != y.block(0) || b != y.block(1) || none != 0 {
		t.Fatalf("%d, %d, %d", a, b, none)
	}
	for _, x := range []uint64{a, b} {
		y.give(t, x)
		if again := y.alloc(t); again != x {
			t.Errorf("%d was given back, %d is told", x, again)
		}
		if none := y.alloc(t); none != 0 {
			t.Errorf("then %d", none)
		}
	}
}

// A shelf is the free blocks, told plainly.
type shelf struct {
	free    []int // the first one stands last
	changes uint64
}

func (s *shelf) holds(t *testing.T, y *yard) {
	t.Helper()
	l := y.free(t)
	slices.Reverse(l)
	if changes, _ := y.top(t); changes != s.changes || !slices.Equal(l, s.free) {
		t.Fatalf("%d changes, free are %d, not %d, %d", changes, l, s.changes, s.free)
	}
}

// full is a shelf of all blocks, as an image begins.
func full(n int) shelf {
	l := numbers(n)
	slices.Reverse(l)
	return shelf{free: l}
}

// thrown tells a config, its code's words and slots.
func thrown(r *bench.Row) (api.Conf, int, int) {
	c := api.Conf{Harts: 1 + r.Next(8), Actors: 1 + r.Next(8), Blocks: 1 + r.Next(9), Words: 8 + r.Next(30), Budget: 1}
	return c, r.Next(300), 1 + r.Next(20)
}

// P22.1, P22.2: what is told and given back by one hart is that of a plain stack; each change is counted, nothing else is changed.
func TestPlainStack(t *testing.T) {
	r := bench.Row(1)
	none := 0
	for range 40 {
		c, words, slots := thrown(&r)
		y := laid(t, c, words, slots)
		s := full(y.n)
		s.holds(t, y)
		var mine []int
		for range 40 {
			was := y.bytes(t)
			top := word(y.l.Globals, image.GTop)
			if len(mine) > 0 && r.Next(2) == 0 {
				n := r.Next(len(mine))
				b := mine[n]
				mine = slices.Delete(mine, n, n+1)
				y.give(t, y.block(b))
				s.free = append(s.free, b)
				s.changes++
				y.changed(t, was, top, word(y.block(b), image.BNext))
			} else if b := y.alloc(t); len(s.free) == 0 {
				none++
				if b != 0 {
					t.Fatalf("%d is told, and none is free", b)
				}
				y.changed(t, was)
			} else {
				n := s.free[len(s.free)-1]
				s.free = s.free[:len(s.free)-1]
				s.changes++
				if b != y.block(n) {
					t.Fatalf("%d is told, not block %d, %d", b, n, y.block(n))
				}
				mine = append(mine, n)
				y.changed(t, was, top)
				for k := range image.BlockWords { // whoever has it may write into it
					store(t, y.m, word(b, k), r.Word())
				}
			}
			s.holds(t, y)
		}
	}
	if none < 30 {
		t.Errorf("%d times none was free", none)
	}
}

// P22.1, P22.2: of the least and the greatest layouts, and of many blocks, all are told, each once, and all given back.
func TestLayouts(t *testing.T) {
	for _, x := range []struct {
		c           api.Conf
		code, slots int
	}{
		{api.Conf{Harts: 1, Actors: 1, Blocks: 1, Words: 8, Budget: 1}, 0, 1},
		{api.Conf{Harts: 1, Actors: 1, Blocks: 256, Words: 8, Budget: 1}, 1, 1},
		{api.Conf{Harts: 8, Actors: 64, Blocks: 1, Words: 1024, Budget: 1000}, api.MaxCode, 256},
		{api.Conf{Harts: 8, Actors: 64, Blocks: 256, Words: 1024, Budget: 1000}, api.MaxCode, 256},
	} {
		y := laid(t, x.c, x.code, x.slots)
		var l []uint64
		for n := range y.n {
			b := y.alloc(t)
			if b != y.block(n) {
				t.Fatalf("%+v: %d is told, not %d", x, b, y.block(n))
			}
			l = append(l, b)
		}
		if _, first := y.top(t); first != 0 || y.alloc(t) != 0 {
			t.Fatalf("%+v: %d is left", x, first)
		}
		for k, b := range l {
			y.give(t, b)
			if changes, first := y.top(t); first != uint64(k+1) || changes != uint64(y.n+k+1) {
				t.Fatalf("%+v: %d changes, the first is %d", x, changes, first)
			}
		}
		want := numbers(y.n)
		slices.Reverse(want)
		if !slices.Equal(y.free(t), want) {
			t.Fatalf("%+v: free are %d", x, y.free(t))
		}
	}
}

// P22.1, P22.2: the count of changes goes round at its end, and leaves the lowest 32 bits alone.
func TestCountGoesRound(t *testing.T) {
	for _, count := range []uint64{0, 1<<31 - 1, 1 << 31, 1<<32 - 2, 1<<32 - 1} {
		y := laid(t, small(3), 0, 1)
		at := word(y.l.Globals, image.GTop)
		store(t, y.m, at, count<<32|1)
		if b := y.alloc(t); b != y.block(0) {
			t.Fatalf("%d is told", b)
		}
		if v := load(t, y.m, at); v != (count+1)<<32|2 {
			t.Errorf("behind %x changes, alloc: %x", count, v)
		}
		y.give(t, y.block(0))
		if v := load(t, y.m, at); v != (count+2)<<32|1 {
			t.Errorf("behind %x changes, alloc and free: %x", count, v)
		}
	}
}

// Words: in a block's BNext, as in GTop, the lowest 32 bits tell the block behind it; free leaves 0 above them.
func TestLowestBits(t *testing.T) {
	y := laid(t, small(3), 0, 1)
	store(t, y.m, word(y.block(0), image.BNext), 7<<32|3)
	if b := y.alloc(t); b != y.block(0) {
		t.Fatalf("%d is told", b)
	}
	if changes, first := y.top(t); changes != 1 || first != 3 {
		t.Errorf("%d changes, the first is %d", changes, first)
	}
	y.give(t, y.block(0))
	if v := load(t, y.m, word(y.block(0), image.BNext)); v != 3 {
		t.Errorf("behind what was given back stands %x", v)
	}
}

// P22.1, P22.2: GTop's neighbours stay as they are, whatever they have.
func TestNeighbours(t *testing.T) {
	r := bench.Row(2)
	y := laid(t, small(2), 20, 3)
	for n := -2; n < image.Globals; n++ {
		if n != image.GTop {
			store(t, y.m, word(y.l.Globals, n), r.Word())
		}
	}
	for range 10 {
		was := y.bytes(t)
		a, b := y.alloc(t), y.alloc(t)
		y.alloc(t)
		y.give(t, a)
		y.give(t, b)
		y.changed(t, was, word(y.l.Globals, image.GTop), a, b)
	}
}

// P22.1, P22.2: a routine comes back to where it was called from, and changes those registers alone that it may.
func TestRegisters(t *testing.T) {
	r := bench.Row(3)
	may := []int{1, 5, 6, 7, 10, 11, 12, 13, 14, 15, 16, 17, 28, 29, 30, 31}
	for range 30 {
		y := laid(t, small(2), 20, 3)
		for k, routine := range []string{"alloc", "alloc", "alloc", "free", "free", "alloc"} {
			var x [32]uint64
			for k := 1; k < 32; k++ {
				x[k] = r.Word()
			}
			x[9] = y.l.Globals
			if routine == "free" {
				x[10] = y.block(k - 3)
			}
			now := y.called(t, routine, x)
			for k := range now {
				if now[k] != x[k] && !slices.Contains(may, k) {
					t.Errorf("%s: register %d has %x, not %x any more", routine, k, now[k], x[k])
				}
			}
		}
	}
}

// layouts are some, also such as no image has.
func layouts() []api.Layout {
	const most = 1<<64 - 1
	return []api.Layout{
		{Globals: 64, Blocks: 640, BlockSize: 256, End: 1408},
		{}, {Blocks: 8, BlockSize: 1}, {Blocks: 1 << 23, BlockSize: 3000},
		{Globals: most, Blocks: most, BlockSize: most, End: most}, {Blocks: 1 << 63, BlockSize: 1 << 63, Slots: -1},
	}
}

// Words: a routine begins with the label of its name; its others begin with that and a dot; it names no others, and it is of instructions that may be; whatever the layout.
func TestLabels(t *testing.T) {
	for _, l := range layouts() {
		for name, i := range map[string][]api.Item{"alloc": blocks.Alloc(l), "free": blocks.Free(l)} {
			if len(i) == 0 || i[0] != (api.Item{Kind: api.ItemLabel, Name: name}) {
				t.Fatalf("%s begins with %+v", name, i[:min(1, len(i))])
			}
			for _, x := range i[1:] {
				if x.Name != "" && (len(x.Name) <= len(name)+1 || x.Name[:len(name)+1] != name+".") {
					t.Errorf("%s has %+v", name, x)
				}
				if x.Kind == api.ItemInst && !inst.Good(x.Inst) {
					t.Errorf("%s has %+v", name, x)
				}
			}
			if _, _, e := code.Assemble(i, 0); e != api.OK {
				t.Errorf("%s alone: error %d", name, int(e))
			}
		}
		if _, _, e := code.Assemble(slices.Concat(blocks.Free(l), blocks.Alloc(l)), 4); e != api.OK {
			t.Errorf("both together: error %d", int(e))
		}
	}
}

// What is handed out is the asker's own.
func TestOwnItems(t *testing.T) {
	for _, l := range layouts() {
		for _, of := range []func(api.Layout) []api.Item{blocks.Alloc, blocks.Free} {
			i := of(l)
			want := slices.Clone(i)
			clear(i)
			if !slices.Equal(of(l), want) {
				t.Error("what was told ahead of it was written into, and it is another one")
			}
		}
	}
}
