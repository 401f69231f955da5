package copying_test

import (
	"bytes"
	"math"
	"slices"
	"strings"
	"testing"

	"postbag/api"
	"postbag/bench"
	"postbag/code"
	"postbag/copying"
	"postbag/inst"
	"postbag/items"
	"postbag/memory"
)

// P23.1: names, and none of another kind.
func TestName(t *testing.T) {
	if copying.Out != 0 || copying.In != 1 || copying.Own != 2 || copying.Move != 3 {
		t.Error("the kinds are other ones")
	}
	for kind, want := range []string{"copy.out", "copy.in", "copy.own", "copy.move"} {
		if s := copying.Name(kind); s != want {
			t.Errorf("%d: %s, not %s", kind, s, want)
		}
	}
	for _, kind := range []int{-1, -2, -4, 4, 5, 7, 1 << 8, 1 << 32, math.MaxInt, math.MinInt} {
		if s, l := copying.Name(kind), copying.Copy(kind); s != "" || len(l) != 0 {
			t.Errorf("%d: %q, %d items", kind, s, len(l))
		}
	}
}

// named are the routines by their names.
func named() map[string]func() []api.Item {
	l := map[string]func() []api.Item{"collect": copying.Collect}
	for _, kind := range kinds() {
		l[copying.Name(kind)] = func() []api.Item { return copying.Copy(kind) }
	}
	return l
}

// Words (chapter 21): a routine begins with the label of its name; its others begin with that and a dot; its instructions may be.
func TestLabels(t *testing.T) {
	for name, of := range named() {
		l := of()
		if len(l) == 0 || l[0] != (api.Item{Kind: api.ItemLabel, Name: name}) {
			t.Fatalf("%s begins with %+v", name, l[:min(1, len(l))])
		}
		for _, i := range l[1:] {
			of := i.Name == "" || strings.HasPrefix(i.Name, name+".") || name == "collect" && i.Name == "copy.move" && i.Kind == api.ItemJump
			if !of || i.Kind == api.ItemInst && !inst.Good(i.Inst) {
				t.Errorf("%s has %+v", name, i)
			}
		}
		want := slices.Clone(l)
		clear(l)
		if !slices.Equal(of(), want) {
			t.Errorf("%s: what was told ahead of it was written into, and it is another one", name)
		}
	}
	if _, _, e := code.Assemble(routines(), 4); e != api.OK {
		t.Errorf("all together: error %d", int(e))
	}
	for _, kind := range kinds() {
		if _, _, e := code.Assemble(copying.Copy(kind), 0); e != api.OK {
			t.Errorf("%s alone: error %d", copying.Name(kind), int(e))
		}
	}
}

// The chapter's example 1, to the word.
func TestExample(t *testing.T) {
	m := memory.New(memEnd)
	h := heap{base: newAt}
	w := h.tuple(4, h.tuple(8))
	h.put(t, m, newAt)
	r := bench.Row(1)
	for k := range 40 {
		store(t, m, word(4096, k), r.Word())
	}
	was := words(t, m, 4096, 40)
	x := called(t, m, "copy.out", [32]uint64{10: w, 11: 4096, 12: 4112, 13: 4096 + 256})
	want := slices.Concat(was[:2], []uint64{2, 4, 0x29, 1, 8}, was[7:])
	if l := words(t, m, 4096, 40); !slices.Equal(l, want) {
		t.Errorf("%x, not %x", l, want)
	}
	if x[10] != 17 || x[12] != 4112+40 || x[15] != 0 {
		t.Errorf("%d, behind it %d, %d", x[10], x[12], x[15])
	}
}

// A task is a copy that is asked for: what stands where, and how much room there is.
type task struct {
	kind int
	m    *memory.Memory
	was  *memory.Memory // as m was ahead of it
	old  view           // how words lead to tuples where the value stands
	now  view           // and where it is laid
	w    uint64
	x    [32]uint64
	need int // words
	room int
}

// set tells the task of copying a value that stands in a heap that begins at oldAt, into so many words at newAt.
func set(t testing.TB, r *bench.Row, m *memory.Memory, kind int, w uint64) task {
	t.Helper()
	k := task{kind: kind, m: m, w: w, old: in(t, m, 0), now: in(t, m, 0)}
	for n := 1; n < 32; n++ {
		k.x[n] = r.Word()
	}
	switch kind {
	case copying.Out:
		k.x[11] = newAt - 8*uint64(r.Next(20))
		k.now.base = k.x[11]
	case copying.In:
		k.x[14] = oldAt
		k.old.base = oldAt
	}
	k.need = k.old.size(w, bound)
	if kind == copying.Move {
		k.need = k.old.once(w)
	}
	return k
}

// base is what the first heap's begins with, as it stands in words.
func base(kind int) uint64 {
	if kind == copying.In {
		return 0
	}
	return oldAt
}

// does lets it be copied into so many words, and holds what is told against what is promised.
func (k *task) does(t testing.TB, room int) {
	t.Helper()
	k.room = room
	k.was = k.m.Clone()
	k.x[10], k.x[12], k.x[13] = k.w, newAt, word(newAt, room)
	x := called(t, k.m, copying.Name(k.kind), k.x)
	for n := range x {
		if x[n] != k.x[n] && !slices.Contains([]int{1, 5, 6, 7, 10, 12, 15, 17, 28, 29, 30, 31}, n) {
			t.Fatalf("%s: register %d has %x, not %x any more", copying.Name(k.kind), n, x[n], k.x[n])
		}
	}
	laid := 0
	if k.need <= room {
		laid = k.need
		if x[15] != 0 || x[12] != word(newAt, laid) {
			t.Fatalf("%s, %d of %d words: %d, behind it %d, not %d", copying.Name(k.kind), k.need, room, x[15], x[12], word(newAt, laid))
		}
		k.holds(t, x[10])
	} else if x[15] != 1 || x[10] != k.w || x[12] != newAt {
		t.Fatalf("%s, %d of %d words: %d, %x, behind it %d", copying.Name(k.kind), k.need, room, x[15], x[10], x[12])
	}
	k.kept(t, laid)
}

// holds holds the new word, and what was laid, against the value.
func (k *task) holds(t testing.TB, w uint64) {
	t.Helper()
	was := view{func(at uint64) uint64 { return load(t, k.was, at) }, k.old.base}
	if a, b := was.text(k.w, bound), k.now.text(w, bound); a != b {
		t.Fatalf("%s: %s was copied, %s is laid", copying.Name(k.kind), a, b)
	}
	if w&3 != tuple && w != k.w {
		t.Fatalf("%s: %x, not %x", copying.Name(k.kind), w, k.w)
	}
	k.own(t, w)
	a, e := decoded(t, k.was, k.w, oldAt, (newAt-oldAt)/8, base(k.kind))
	at := newAt - k.now.base
	b, f := decoded(t, k.m, w, newAt, k.need, at)
	if a != b || e != f {
		t.Fatalf("%s: Decode told %s, %d, and tells %s, %d", copying.Name(k.kind), a, int(e), b, int(f))
	}
}

// own tells it where what was laid is not tuples one behind the other, that lead to one another alone, each from one place, but of Move.
func (k *task) own(t testing.TB, w uint64) {
	t.Helper()
	met := map[uint64]int{}
	if w&3 == tuple {
		met[w]++
	}
	var begins []uint64
	for at, end := uint64(newAt), word(newAt, k.need); at < end; {
		begins = append(begins, at-k.now.base+tuple)
		n := load(t, k.m, at)
		if n > api.MaxTuple {
			t.Fatalf("%s: %x parts at %d", copying.Name(k.kind), n, at)
		}
		for _, p := range words(t, k.m, at+8, int(n)) {
			if p&3 == tuple {
				met[p]++
			}
		}
		at = word(at, int(n)+1)
	}
	for _, b := range begins {
		if met[b] == 0 || met[b] > 1 && k.kind != copying.Move {
			t.Fatalf("%s: %d words lead to %x", copying.Name(k.kind), met[b], b)
		}
		delete(met, b)
	}
	if len(met) > 0 {
		t.Fatalf("%s: words lead elsewhere: %x", copying.Name(k.kind), met)
	}
}

// kept tells it where something else in the memory is another one: the room's words may be, and of Move the first words of the tuples that were moved, which tell their new words.
func (k *task) kept(t testing.TB, laid int) {
	t.Helper()
	a, _ := k.was.Bytes(oldAt, memEnd-oldAt)
	b, _ := k.m.Bytes(oldAt, memEnd-oldAt)
	room := newAt - oldAt
	copy(b[room:], a[room:room+8*max(0, k.room)])
	if k.kind == copying.Move {
		was := view{func(at uint64) uint64 { return load(t, k.was, at) }, 0}
		whole := was.text(k.w, 200)
		for _, w := range was.met(k.w) {
			at := w - tuple
			to := load(t, k.m, at)
			if laid > 0 && (to < newAt || to >= word(newAt, laid) || was.text(w, 200) != k.now.text(to, 200)) {
				t.Fatalf("of %s: %s is now %x", whole, was.text(w, 200), to)
			}
			copy(b[at-oldAt:], a[at-oldAt:at-oldAt+8])
		}
	}
	if !bytes.Equal(a, b) {
		for n := range a {
			if a[n] != b[n] {
				t.Fatalf("%s of %d words in %d: at %d is %d, not %d any more", copying.Name(k.kind), k.need, k.room, oldAt+n, b[n], a[n])
			}
		}
	}
}

// each lets a value be copied by each kind, into room that is just enough, one word less, none at all, and more.
func each(t testing.TB, r *bench.Row, lay func(h *heap) uint64) {
	t.Helper()
	for _, kind := range kinds() {
		h := heap{base: base(kind)}
		w := lay(&h)
		m := littered(t, r, memEnd)
		h.put(t, m, oldAt)
		need := set(t, r, m, kind, w).need
		for _, room := range []int{need, need - 1, 0, r.Next(need + 1), need + 1 + r.Next(9)} {
			if room < 0 || room > bound {
				continue
			}
			m := m.Clone()
			k := set(t, r, m, kind, w)
			k.does(t, room)
		}
	}
}

// P23.1, P23.3: what has no tuple has no words, whatever room there is: also where its end is ahead of its beginning.
func TestPlain(t *testing.T) {
	r := bench.Row(2)
	for _, w := range []uint64{0, 4, integer(-1), integer(-3), 1<<63 - 4, 1 << 63, atom, pid, 1<<22 - 2, 1<<22 - 1, integer(1 << 40)} {
		each(t, &r, func(*heap) uint64 { return w })
		for _, kind := range kinds() {
			for _, end := range []uint64{newAt, newAt - 8, 0, 1<<64 - 8} {
				x := called(t, memory.New(memEnd), copying.Name(kind), [32]uint64{10: w, 11: newAt, 12: newAt, 13: end, 14: oldAt, 15: 7})
				if x[10] != w || x[12] != newAt || x[13] != end || x[15] != 0 {
					t.Errorf("%s of %x: %x, behind it %d, %d", copying.Name(kind), w, x[10], x[12], x[15])
				}
			}
		}
	}
}

// P23.1: a tuple has no room that ends ahead of its beginning, nor in the midst of its last word.
func TestNoRoom(t *testing.T) {
	for _, kind := range kinds() {
		for _, end := range []uint64{newAt - 8, newAt - 4096, 8, 0, newAt + 1, newAt + 17, newAt + 23} {
			m := memory.New(memEnd)
			h := heap{base: base(kind)}
			w := h.tuple(4, 8)
			h.put(t, m, oldAt)
			was, _ := m.Bytes(newAt-4096, 8192)
			x := called(t, m, copying.Name(kind), [32]uint64{10: w, 11: newAt, 12: newAt, 13: end, 14: oldAt})
			if now, _ := m.Bytes(newAt-4096, 8192); x[15] != 1 || !bytes.Equal(now, was) {
				t.Errorf("%s with room up to %d: %d", copying.Name(kind), end, x[15])
			}
		}
	}
}

// P23.1: room may end as far away as addresses go.
func TestRoomWithoutEnd(t *testing.T) {
	for _, kind := range kinds() {
		for _, end := range []uint64{1 << 32, 1 << 63, 1<<64 - 8} {
			m := memory.New(memEnd)
			h := heap{base: base(kind)}
			w := h.tuple(4, 8)
			h.put(t, m, oldAt)
			if x := called(t, m, copying.Name(kind), [32]uint64{10: w, 11: newAt, 12: newAt, 13: end, 14: oldAt}); x[12] != newAt+24 || x[15] != 0 {
				t.Errorf("%s with room up to %x: %d, behind it %d", copying.Name(kind), end, x[15], x[12])
			}
		}
	}
}

// P23.1: the empty tuple has one word, wherever it stands.
func TestEmpty(t *testing.T) {
	r := bench.Row(3)
	each(t, &r, func(h *heap) uint64 { return h.tuple() })
	each(t, &r, func(h *heap) uint64 { return h.tuple(h.tuple(), 4, h.tuple()) })
	each(t, &r, func(h *heap) uint64 { e := h.tuple(); return h.tuple(e, h.tuple(e, e), e) })
}

// P23.1, P23.3: thrown values, of which each tuple is met once, or some are met more often.
func TestThrown(t *testing.T) {
	r := bench.Row(4)
	for n := range 80 {
		each(t, &r, func(h *heap) uint64 { return h.any(&r, 1+r.Next(30), n%3) })
	}
}

// P23.1, P23.3: as deep as may be, and deeper: how deep it is does not matter to a copy.
func TestDeep(t *testing.T) {
	r := bench.Row(5)
	for _, deep := range []int{1, 2, 63, 64, 65, 500} {
		each(t, &r, func(h *heap) uint64 {
			w := integer(7)
			for range deep {
				w = h.tuple(w)
			}
			return w
		})
		each(t, &r, func(h *heap) uint64 {
			w := integer(7)
			for k := range deep {
				l := []uint64{4, 8, 12, 16}
				l[k%4] = w
				w = h.tuple(l...)
			}
			return w
		})
	}
}

// wide lays a tuple of so many tuples in all, four in each as long as there are any.
func wide(h *heap, tuples int) uint64 {
	if tuples == 0 {
		return integer(tuples)
	}
	var l []uint64
	for k := range api.MaxTuple {
		l = append(l, wide(h, (tuples-1+k)/api.MaxTuple))
	}
	return h.tuple(l...)
}

// P23.1, P23.3: as wide as may be: 204 tuples of four parts fill the greatest heap but for 4 words; and wider.
func TestWide(t *testing.T) {
	r := bench.Row(6)
	for _, n := range []int{1, 2, 5, 6, 21, 85, 204, 341, 700} {
		each(t, &r, func(h *heap) uint64 { return wide(h, n) })
	}
}

// P23.1, P23.3: a tuple that is met twice is laid twice, but for Move: {x, x} with x {1}.
func TestTwice(t *testing.T) {
	want := map[int][]uint64{
		copying.Out:  {2, 8*3 + 1, 8*5 + 1, 1, 4, 1, 4},
		copying.In:   {2, newAt + 8*3 + 1, newAt + 8*5 + 1, 1, 4, 1, 4},
		copying.Own:  {2, newAt + 8*3 + 1, newAt + 8*5 + 1, 1, 4, 1, 4},
		copying.Move: {2, newAt + 8*3 + 1, newAt + 8*3 + 1, 1, 4},
	}
	r := bench.Row(7)
	for _, kind := range kinds() {
		h := heap{base: base(kind)}
		x := h.tuple(4)
		w := h.tuple(x, x)
		m := memory.New(memEnd)
		h.put(t, m, oldAt)
		x10 := called(t, m, copying.Name(kind), [32]uint64{10: w, 11: newAt, 12: newAt, 13: memEnd, 14: oldAt})[10]
		begin := uint64(newAt + 1)
		if kind == copying.Out {
			begin = 1
		}
		if l := words(t, m, newAt, len(want[kind])+1); !slices.Equal(l, append(want[kind], 0)) || x10 != begin {
			t.Errorf("%s: %x, %x", copying.Name(kind), x10, l)
		}
	}
	each(t, &r, func(h *heap) uint64 { x := h.tuple(4); return h.tuple(x, x) })
	// Each of so many tuples leads to the next one twice: laid twice they have no room, laid once they have.
	for _, n := range []int{3, 8, 30, 200} {
		each(t, &r, func(h *heap) uint64 {
			w := integer(1)
			for range n {
				w = h.tuple(w, w)
			}
			return w
		})
	}
}

// P23.1: of Move each tuple is laid once, also of values that are moved one behind the other; one that was moved already needs no room.
func TestMoveOn(t *testing.T) {
	r := bench.Row(8)
	for range 60 {
		h := heap{base: oldAt}
		h.any(&r, 12, 3)
		m := littered(t, &r, memEnd)
		h.put(t, m, oldAt)
		var roots []uint64
		for at := 0; at < len(h.words); at += 1 + int(h.words[at]) {
			if r.Next(3) == 0 {
				roots = append(roots, word(oldAt, at)+tuple)
			}
		}
		was := m.Clone()
		view := in(t, was, 0)
		to := uint64(newAt)
		all := map[uint64]int{}
		news := map[uint64]uint64{}
		for range 2 {
			for _, w := range roots {
				need := 0
				for _, w := range view.met(w) {
					if all[w]++; all[w] == 1 {
						need += 1 + len(view.parts(w))
					}
				}
				x := called(t, m, "copy.move", [32]uint64{10: w, 12: to, 13: word(to, need)})
				if x[15] != 0 || x[12] != word(to, need) {
					t.Fatalf("%d words are needed; %d, %d were laid", need, x[15], (x[12]-to)/8)
				}
				if n, met := news[w]; met && n != x[10] {
					t.Fatalf("%x was moved to %x, and to %x", w, n, x[10])
				}
				news[w] = x[10]
				to = x[12]
			}
		}
		for _, w := range roots {
			if a, b := view.text(w, bound), in(t, m, 0).text(news[w], bound); a != b {
				t.Fatalf("%s was moved, %s is laid", a, b)
			}
		}
	}
}

// P23.1, P23.3: from a heap to a block, to another heap, and on: what Decode tells of the last one is what it told of the first one.
func TestAround(t *testing.T) {
	r := bench.Row(9)
	const block, third = newAt + 1<<13, newAt + 1<<14
	fits := [2]int{}
	for range 400 {
		h := heap{base: oldAt}
		w := h.any(&r, 1+r.Next(9), r.Next(4))
		m := littered(t, &r, memEnd)
		h.put(t, m, oldAt)
		want, e := decoded(t, m, w, oldAt, len(h.words), oldAt)
		need := in(t, m, 0).size(w, bound)
		x := called(t, m, "copy.out", [32]uint64{10: w, 11: block, 12: word(block, 2), 13: word(block, 2+blockWords)})
		if x[15] == 0 != (need <= blockWords) {
			t.Fatalf("%d words in a block: %d", need, x[15])
		}
		fits[x[15]]++
		if x[15] != 0 {
			continue
		}
		if s, f := decoded(t, m, x[10], block, 2+blockWords, 0); s != want || f != e {
			t.Fatalf("in the block %s, %d, not %s, %d", s, int(f), want, int(e))
		}
		x = called(t, m, "copy.in", [32]uint64{10: x[10], 12: third, 13: word(third, need), 14: block})
		if s, f := decoded(t, m, x[10], third, need, third); s != want || f != e || x[15] != 0 {
			t.Fatalf("in another heap %s, %d, not %s, %d", s, int(f), want, int(e))
		}
		x = called(t, m, "copy.own", [32]uint64{10: x[10], 12: newAt, 13: word(newAt, need)})
		if s, f := decoded(t, m, x[10], newAt, need, newAt); s != want || f != e || x[15] != 0 {
			t.Fatalf("and then %s, %d, not %s, %d", s, int(f), want, int(e))
		}
		x = called(t, m, "copy.out", [32]uint64{10: x[10], 11: block, 12: word(block, 2), 13: word(block, 2+need)})
		x = called(t, m, "copy.in", [32]uint64{10: x[10], 12: oldAt, 13: word(oldAt, need), 14: block})
		if s, f := decoded(t, m, x[10], oldAt, need, oldAt); s != want || f != e || x[15] != 0 {
			t.Fatalf("and back again %s, %d, not %s, %d", s, int(f), want, int(e))
		}
	}
	if min(fits[0], fits[1]) < 50 {
		t.Errorf("%d have room in a block, and have none", fits)
	}
}

// P23.1: what is copied stays as it was but for Move, so that it can be copied again, and by another kind.
func TestAgain(t *testing.T) {
	r := bench.Row(10)
	for range 40 {
		h := heap{base: oldAt}
		w := h.any(&r, 8, 2)
		m := littered(t, &r, memEnd)
		h.put(t, m, oldAt)
		var laid [][]uint64
		for _, kind := range []int{copying.Own, copying.Out, copying.Own, copying.Own} {
			x := called(t, m, copying.Name(kind), [32]uint64{10: w, 11: newAt, 12: newAt, 13: memEnd})
			if kind == copying.Own {
				laid = append(laid, words(t, m, newAt, int(x[items.First+2]-newAt)/8))
			}
		}
		if !slices.Equal(laid[0], laid[1]) || !slices.Equal(laid[1], laid[2]) {
			t.Fatalf("%x, %x, %x", laid[0], laid[1], laid[2])
		}
	}
}
