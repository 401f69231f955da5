package blocks_test

import (
	"slices"
	"strconv"
	"testing"

	"postbag/api"
	"postbag/bench"
	"postbag/image"
	"postbag/items"
	"postbag/machine"
)

// Registers that the tests' code keeps while it calls routines.
const (
	slots   = 18 // the first of those that have blocks, or 0
	wrong   = 24 // not 0 any more once something was not as it should be
	changes = 25 // how often alloc told a block, or one was given back
	seen    = 26
)

// most is how many choices a script comes to its end by.
const most = 100000

// held lays what puts a number into the block that a register has: whoever had it ahead left 0 in it.
func held(w *items.Writer, block int, id uint64) {
	w.Load(12, block, image.BRoot)
	w.Both(api.OpOr, wrong, wrong, 12)
	w.Const(12, id)
	w.Store(12, block, image.BRoot)
	w.Store(12, block, image.BNext)
	w.Store(12, block, image.BlockWords-1)
	w.Number(api.OpAddi, changes, changes, 1)
}

// given lays what holds what stands in a block against what was put there, leaves 0 in it, and gives it back. What is read last is asked behind that alone: nobody who has the block next may be seen in it.
func given(w *items.Writer, block int, id uint64) {
	w.Const(13, id)
	for _, n := range []int{image.BNext, image.BRoot} {
		w.Load(12, block, n)
		w.Both(api.OpXor, 12, 12, 13)
		w.Both(api.OpOr, wrong, wrong, 12)
	}
	w.Store(items.Zero, block, image.BRoot)
	w.Copy(items.First, block)
	w.Load(seen, block, image.BlockWords-1)
	w.Jump(items.From, "free")
	w.Const(13, id)
	w.Both(api.OpXor, 12, seen, 13)
	w.Both(api.OpOr, wrong, wrong, 12)
	w.Copy(block, items.Zero)
	w.Number(api.OpAddi, changes, changes, 1)
}

// shares is a hart's code that takes blocks into a few registers and gives them back, in any order.
func (y *yard) shares(r *bench.Row, h, each, steps int) []api.Item {
	w := items.Begin(name(h))
	own := items.Own(name(h))
	w.Const(items.Globals, y.l.Globals)
	ids := make([]uint64, each)
	for k := range steps {
		n := r.Next(each)
		end := own(strconv.Itoa(k))
		block := slots + n
		if ids[n] != 0 {
			w.Branch(api.OpBeq, block, items.Zero, end)
			given(w, block, ids[n])
			ids[n] = 0
		} else {
			ids[n] = uint64(h+1)<<40 | uint64(k+1)
			w.Jump(items.From, "alloc")
			w.Copy(block, items.First)
			w.Branch(api.OpBeq, block, items.Zero, end)
			held(w, block, ids[n])
		}
		w.Label(end)
	}
	w.Const(12, y.logOf(h))
	for n := range each {
		w.Store(slots+n, 12, n)
	}
	w.Store(wrong, 12, 8)
	w.Store(changes, 12, 9)
	return stop(w)
}

// whole tells it where something was wrong with a hart's blocks, or where the free ones and those that harts have are not all, each once, or not each change was counted.
func (y *yard) whole(t testing.TB, harts, each int) {
	t.Helper()
	all := y.free(t)
	sum := uint64(0)
	for h := range harts {
		if v := load(t, y.m, word(y.logOf(h), 8)); v != 0 {
			t.Fatalf("hart %d met %x", h, v)
		}
		sum += load(t, y.m, word(y.logOf(h), 9))
		for n := range each {
			if b := load(t, y.m, word(y.logOf(h), n)); b != 0 {
				all = append(all, int(b-y.l.Blocks)/int(y.l.BlockSize))
			}
		}
	}
	slices.Sort(all)
	if !slices.Equal(all, numbers(y.n)) {
		t.Fatalf("%d of %d blocks are there", all, y.n)
	}
	if n, _ := y.top(t); n != sum {
		t.Fatalf("%d changes are counted, not %d", n, sum)
	}
}

// P22.3, P22.4: by any script, one to four harts: no block is told while it is not free, what was done with it ahead stands ahead, and all are there at the end.
func TestShared(t *testing.T) {
	r := bench.Row(11)
	for harts := 1; harts <= 4; harts++ {
		for _, s := range bench.Scripts(&r, 200) {
			y := laid(t, small(1+r.Next(6)), 20, 3)
			each := 1 + r.Next(3)
			var parts [][]api.Item
			for h := range harts {
				parts = append(parts, y.shares(&r, h, each, 12))
			}
			x := y.started(t, y.lay(t, parts...), harts)
			if !s.Play(x, most) {
				t.Fatalf("it goes on for too long: %+v", s)
			}
			y.left(t, x)
			y.whole(t, harts, each)
		}
	}
}

// low tells GTop's lowest 32 bits, as they are just now.
func (y *yard) low(t testing.TB, x *machine.Machine) uint64 {
	t.Helper()
	b, e := x.Bytes(word(y.l.Globals, image.GTop), 4)
	if e != api.OK {
		t.Fatal(int(e))
	}
	return uint64(b[0]) | uint64(b[1])<<8 | uint64(b[2])<<16 | uint64(b[3])<<24
}

// P22.1: 0 is told just if at some moment of the call no block was free.
func TestNoneJust(t *testing.T) {
	r := bench.Row(12)
	none, late := 0, 0
	for _, s := range bench.Scripts(&r, 120) {
		y := laid(t, small(1+r.Next(3)), 20, 3)
		harts := 2 + r.Next(3)
		var parts [][]api.Item
		for h := range harts {
			parts = append(parts, y.shares(&r, h, 2, 12))
		}
		at := y.lay(t, parts...)
		x := y.started(t, at, harts)
		may := make([]bool, harts)
		for range most {
			c, ok := s.Do(x)
			if !ok {
				break
			}
			if c.Kind == machine.Issue && x.PC(c.Hart) == at["alloc"] {
				may[c.Hart] = false
			}
			empty := y.low(t, x) == 0
			for h := range may {
				may[h] = may[h] || empty
			}
			if v, known := x.X(c.Hart, items.First); c.Kind == machine.Issue && x.PC(c.Hart) == at["alloc.leave"] && known && v == 0 {
				none++
				if !empty {
					late++
				}
				if !may[c.Hart] {
					t.Fatal("0 is told, and blocks were free all the time")
				}
			}
		}
		y.left(t, x)
		y.whole(t, harts, 2)
	}
	if none < 100 || late < 10 {
		t.Errorf("%d times none, %d times there is one again", none, late)
	}
}

// P22.1: where there are as many blocks as harts ask for at a time, each gets one, whatever fails.
func TestEnoughForAll(t *testing.T) {
	r := bench.Row(13)
	for _, s := range bench.Scripts(&r, 100) {
		harts := 2 + r.Next(3)
		y := laid(t, small(harts), 20, 3)
		var parts [][]api.Item
		for h := range harts {
			w := items.Begin(name(h))
			w.Const(items.Globals, y.l.Globals)
			for k := range 5 {
				w.Jump(items.From, "alloc")
				w.Copy(slots, items.First)
				w.Number(api.OpSltiu, 12, slots, 1)
				w.Both(api.OpOr, wrong, wrong, 12)
				w.Branch(api.OpBeq, slots, items.Zero, name(h)+".end")
				held(w, slots, uint64(h*10+k+1))
				given(w, slots, uint64(h*10+k+1))
			}
			w.Label(name(h) + ".end")
			w.Const(12, y.logOf(h))
			w.Store(wrong, 12, 8)
			w.Store(changes, 12, 9)
			parts = append(parts, stop(w))
		}
		x := y.started(t, y.lay(t, parts...), harts)
		if !s.Play(x, most) {
			t.Fatalf("it goes on for too long: %+v", s)
		}
		y.left(t, x)
		y.whole(t, harts, 0)
	}
}
