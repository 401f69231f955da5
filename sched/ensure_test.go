package sched_test

import (
	"bytes"
	"testing"

	"postbag/api"
	"postbag/bench"
	"postbag/image"
	"postbag/items"
	"postbag/value"
)

// used lets so many words of actor 0's heap be in use: first those of a value to which slot 0 leads, then others to which slot 1 leads alone.
func (h *house) used(t testing.TB, r *bench.Row, kept, words int) string {
	t.Helper()
	h.made(t, 1)
	heap := h.field(0, image.WSlots+slots)
	l := []uint64{}
	lay := func(n int) uint64 {
		w := integer(n)
		for end := len(l) + n; len(l) < end; {
			left := min(end-len(l), 5)
			if left == 5 && end-len(l) == 6 {
				left = 4
			}
			at := word(heap, len(l))
			l = append(l, uint64(left-1))
			for k := range left - 1 {
				if k > 0 {
					w = integer(r.Next(100))
				}
				l = append(l, w)
			}
			w = at + tuple
		}
		return w
	}
	a := lay(kept)
	b := lay(words - kept)
	for k, w := range l {
		h.set(t, word(heap, k), w)
	}
	h.set(t, h.field(0, image.WSlots), a)
	h.set(t, h.field(0, image.WSlots+1), b)
	h.set(t, h.field(0, image.WAlloc), word(heap, len(l)))
	v, e := value.Decode(a, l, heap)
	if e != api.OK {
		t.Fatal(int(e))
	}
	return value.Text(v)
}

// P24.1: where there is room, nothing is done; else the heap is collected, with as many slots as are asked for, and has room then.
func TestEnsure(t *testing.T) {
	r := bench.Row(51)
	collected := [2]int{}
	for range 150 {
		c := conf(1, 2)
		c.Words = 20 + r.Next(30)
		h := alone(t, c)
		kept := 2 * r.Next(8)
		words := kept + 2*r.Next((c.Words-kept)/2+1)
		want := h.used(t, &r, kept, words)
		room := 8 * (c.Words - words)
		for _, ask := range []int{0, room, room - 1, room + 1, room + 8, 8 * (c.Words - kept), 8*(c.Words-kept) - 1} {
			if ask < 0 || ask > 8*(c.Words-kept) {
				continue
			}
			was, _ := h.m.Bytes(h.l.Globals, int(h.l.End-h.l.Globals))
			_, x := h.called(t, "ensure", map[int]uint64{10: uint64(ask), 11: 1})
			if ask <= room {
				collected[0]++
				if now, _ := x.Bytes(h.l.Globals, len(was)); !bytes.Equal(now, was) {
					t.Fatalf("%d of %d bytes: something is another one", ask, room)
				}
				continue
			}
			collected[1]++
			heap, alloc, limit := read(t, x, h.field(0, image.WHeap)), read(t, x, h.field(0, image.WAlloc)), read(t, x, h.field(0, image.WLimit))
			if heap != word(h.field(0, image.WSlots+slots), c.Words) || alloc != word(heap, kept) || limit != word(heap, c.Words) {
				t.Fatalf("%d of %d bytes: the heap is from %d to %d, and used up to %d", ask, room, heap, limit, alloc)
			}
			var l []uint64
			for k := range kept {
				l = append(l, read(t, x, word(heap, k)))
			}
			if v, e := value.Decode(read(t, x, h.field(0, image.WSlots)), l, heap); e != api.OK || value.Text(v) != want {
				t.Fatalf("%s, %d, not %s", value.Text(v), int(e), want)
			}
		}
	}
	if min(collected[0], collected[1]) < 100 {
		t.Errorf("not collected, and collected: %d times", collected)
	}
}

// P24.1: where there is no room behind a collection either, it goes to full.
func TestEnsureFull(t *testing.T) {
	r := bench.Row(52)
	for _, c := range []struct{ words, kept, slots int }{{16, 4, 1}, {16, 16, 2}, {16, 0, 0}, {8, 8, 1}, {8, 0, 0}} {
		for _, more := range []uint64{0, 1, 8, 1 << 20, 1 << 63, 1<<64 - 1 - 8*1024} {
			w := begun("main")
			w.makes("a")
			w.leaves()
			a := begun("a")
			a.Load(24, items.Record, image.WAlloc)
			a.Const(5, 7)
			for k := range c.words {
				a.Store(5, 24, k)
			}
			a.Const(5, 1)
			for k := 0; k < c.kept; k += 2 { // tuples of one, each of the one ahead
				a.Store(5, 24, k)
				a.Number(api.OpAddi, 6, 24, 8*(k-2)+tuple)
				if k == 0 {
					a.Const(6, integer(1))
				}
				a.Store(6, 24, k+1)
			}
			a.Number(api.OpAddi, 6, 24, 8*(c.kept-2)+tuple)
			if c.kept == 0 {
				a.Const(6, integer(1))
			}
			for k := range slots {
				a.Store(6, items.Record, image.WSlots+k)
			}
			a.Load(24, items.Record, image.WLimit)
			a.Store(24, items.Record, image.WAlloc)
			a.Const(10, uint64(8*(c.words-c.kept))+more)
			a.Const(11, uint64(c.slots))
			a.call("ensure")
			a.tells(integer(1))
			a.goes("stop")
			f := conf(2, 3)
			f.Words = c.words
			h := built(t, f, w.Items(), a.Items())
			x := h.started(t)
			played(t, x, bench.Script{Row: bench.Row(r.Word())})
			l, full := told(t, x)
			if full != (more > 0) || full == (len(l) > 0) {
				t.Errorf("%d words, %d kept, %d bytes more: %d, %t", c.words, c.kept, more, l, full)
			}
			h.ended(t, x, full)
		}
	}
}

// P24.1: an actor whose heap is used up over and over goes on as long as it has room behind a collection, on one to four harts.
func TestEnsureOverAndOver(t *testing.T) {
	r := bench.Row(53)
	for harts := 1; harts <= 4; harts++ {
		for _, s := range bench.Scripts(&r, 20) {
			w := begun("a")
			w.Label("a again")
			w.Const(10, 8*6)
			w.Const(11, 1)
			w.call("ensure")
			w.counts(1)
			w.Number(api.OpSlli, 26, 5, 2)
			w.Store(26, items.Record, image.WSlots)
			w.lays(25, 26, 26)
			w.lays(25, 26, 25)
			w.Store(25, items.Record, image.WSlots)
			w.Load(5, items.Record, image.WSlots+1)
			w.Number(api.OpAndi, 6, 5, 3)
			w.Branch(api.OpBne, 6, items.Zero, "a again")
			w.Load(10, items.Record, image.WSlots)
			w.call("tell")
			w.Load(5, items.Record, image.WSlots+1)
			w.Const(6, 16)
			w.Branch(api.OpBgeu, 5, 6, "stop")
			w.rests("a")
			actors := 1 + r.Next(2*harts)
			h := built(t, conf(harts, actors), mainOf(repeated("a", actors)...), w.Items())
			x := h.started(t)
			count := map[string]int{}
			watch := h.watch(x)
			watch.plays(t, s)
			for _, v := range watch.values {
				count[v]++
			}
			for _, want := range []string{"{4,{4,4}}", "{8,{8,8}}", "{12,{12,12}}", "{16,{16,16}}"} {
				if count[want] != actors || len(count) != 4 {
					t.Fatalf("%v of %d actors", count, actors)
				}
			}
			h.ended(t, x, false)
		}
	}
}
