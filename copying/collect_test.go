package copying_test

import (
	"bytes"
	"slices"
	"testing"

	"postbag/api"
	"postbag/bench"
	"postbag/image"
	"postbag/memory"
)

// A record stands in the tests' memory at oldAt: slots, and two spaces of so many words.
type record struct {
	m            *memory.Memory
	slots, words int
}

func (c *record) field(n int) uint64 { return word(oldAt, n) }

func (c *record) slot(n int) uint64 { return c.field(image.WSlots + n) }

// space is where one of the two begins.
func (c *record) space(n int) uint64 { return c.slot(c.slots + n*c.words) }

// end is what stands behind the record.
func (c *record) end() uint64 { return c.space(2) }

// recorded tells a record with an empty heap in one of its spaces, in a memory of any numbers.
func recorded(t testing.TB, r *bench.Row, slots, words, space int) *record {
	t.Helper()
	c := &record{slots: slots, words: words}
	c.m = littered(t, r, int(c.end())+512)
	c.becomes(t, space, 0)
	return c
}

// becomes lets the heap be so many words of a space.
func (c *record) becomes(t testing.TB, space, used int) {
	t.Helper()
	store(t, c.m, c.field(image.WHeap), c.space(space))
	store(t, c.m, c.field(image.WAlloc), word(c.space(space), used))
	store(t, c.m, c.field(image.WLimit), word(c.space(space), c.words))
	store(t, c.m, c.field(image.WOther), c.space(1-space))
}

// heap are the words in use.
func (c *record) heap(t testing.TB) []uint64 {
	t.Helper()
	at := load(t, c.m, c.field(image.WHeap))
	return words(t, c.m, at, int(load(t, c.m, c.field(image.WAlloc))-at)/8)
}

// fill lays tuples till no more have room, and any of their words, or others, into the slots.
func (c *record) fill(t testing.TB, r *bench.Row, space, used, shared int) {
	t.Helper()
	h := heap{base: c.space(space)}
	h.any(r, 1+used/2, shared)
	var begins []uint64
	end := 0
	for end < len(h.words) && end+1+int(h.words[end]) <= used {
		begins = append(begins, word(h.base, end)+tuple)
		end += 1 + int(h.words[end])
	}
	h.words = h.words[:end]
	h.put(t, c.m, h.base)
	c.becomes(t, space, end)
	for n := range c.slots {
		w := plain(r)
		if len(begins) > 0 && r.Next(4) > 0 {
			w = begins[len(begins)-1-r.Next(min(len(begins), 5))]
		}
		store(t, c.m, c.slot(n), w)
	}
}

// collected lets the record be collected with its first k slots, holds all against what is promised, and tells how many words its heap has.
func (c *record) collected(t testing.TB, r *bench.Row, k int) int {
	t.Helper()
	was := &record{c.m.Clone(), c.slots, c.words}
	ahead := len(c.heap(t))
	heap, other := load(t, was.m, c.field(image.WHeap)), load(t, was.m, c.field(image.WOther))
	var x [32]uint64
	for n := 1; n < 32; n++ {
		x[n] = r.Word()
	}
	x[8], x[10] = oldAt, uint64(k)
	now := called(t, c.m, "collect", x)
	for n := range now {
		if now[n] != x[n] && !slices.Contains([]int{1, 5, 6, 7, 10, 11, 12, 13, 14, 15, 16, 17, 28, 29, 30, 31}, n) {
			t.Fatalf("register %d has %x, not %x any more", n, now[n], x[n])
		}
	}
	behind := len(c.heap(t))
	fields := words(t, c.m, oldAt, image.WSlots)
	for n, want := range map[int]uint64{image.WHeap: other, image.WAlloc: word(other, behind), image.WLimit: word(other, c.words), image.WOther: heap} {
		if fields[n] != want {
			t.Fatalf("field %d is %d, not %d", n, fields[n], want)
		}
	}
	if behind > ahead {
		t.Fatalf("%d words are %d", ahead, behind)
	}
	c.led(t, was, k, behind)
	c.kept(t, was, k)
	return behind
}

// led holds what the slots lead to against what they led to.
func (c *record) led(t testing.TB, was *record, k, behind int) {
	t.Helper()
	a, b := in(t, was.m, 0), in(t, c.m, 0)
	at := load(t, c.m, c.field(image.WHeap))
	var news, olds []uint64
	for n := range k {
		v, w := load(t, was.m, c.slot(n)), load(t, c.m, c.slot(n))
		if s, now := a.text(v, bound), b.text(w, bound); s != now {
			t.Fatalf("slot %d was %s, is %s", n, s, now)
		}
		heap := load(t, was.m, c.field(image.WHeap))
		s, e := decoded(t, was.m, v, heap, c.words, heap)
		now, f := decoded(t, c.m, w, at, behind, at)
		if s != now || e != f {
			t.Fatalf("slot %d: Decode told %s, %d, and tells %s, %d", n, s, int(e), now, int(f))
		}
		olds, news = append(olds, a.met(v)...), append(news, b.met(w)...)
	}
	slices.Sort(news)
	slices.Sort(olds)
	news, olds = slices.Compact(news), slices.Compact(olds)
	if len(news) != len(olds) {
		t.Fatalf("%d tuples are %d", len(olds), len(news))
	}
	for _, w := range news {
		if w != at+tuple {
			t.Fatalf("%x stands where %x is met", at, w)
		}
		at = word(at, 1+len(b.parts(w)))
	}
	if at != word(load(t, c.m, c.field(image.WHeap)), behind) {
		t.Fatalf("tuples that are met end at %d", at)
	}
}

// kept tells it where something is another one that is no word of the heap, no slot that was asked for, and no word of a space.
func (c *record) kept(t testing.TB, was *record, k int) {
	t.Helper()
	used := word(load(t, c.m, c.field(image.WHeap)), len(c.heap(t)))
	limit := load(t, c.m, c.field(image.WLimit))
	for _, part := range [][2]uint64{{oldAt, c.field(image.WHeap)}, {c.field(image.WDead), c.field(image.WDead + 1)}, {c.slot(k), c.slot(c.slots)}, {used, limit}, {c.end(), c.end() + 512}} {
		a, _ := was.m.Bytes(part[0], int(part[1]-part[0]))
		b, _ := c.m.Bytes(part[0], int(part[1]-part[0]))
		if !bytes.Equal(a, b) {
			t.Fatalf("from %d to %d something is another one", part[0], part[1])
		}
	}
}

// P23.2 to P23.4: heaps with anything in them, from empty to full, collected with no slot, with some, with all; and again: just as many words.
func TestCollect(t *testing.T) {
	r := bench.Row(21)
	for n := range 400 {
		slots, size, space := 1+r.Next(9), 8+r.Next(80), r.Next(2)
		c := recorded(t, &r, slots, size, space)
		used := size
		if n%3 > 0 {
			used = r.Next(size + 1)
		}
		c.fill(t, &r, space, used, n%5)
		for k := slots; k >= 0; k -= 1 + r.Next(3) {
			left := c.collected(t, &r, k)
			if again := c.collected(t, &r, k); again != left {
				t.Fatalf("%d words, and %d again", left, again)
			}
		}
		if left := c.collected(t, &r, 0); left != 0 {
			t.Fatalf("%d words to which no slot leads", left)
		}
	}
}

// P23.2: as great as may be, and full of what is all met: it has no room for a word more.
func TestCollectFull(t *testing.T) {
	r := bench.Row(22)
	for _, size := range []int{8, 9, 100, 1024} {
		for space := range 2 {
			c := recorded(t, &r, 3, size, space)
			h := heap{base: c.space(space)}
			w := h.tuple([]uint64{4, 8, 12, 16}[:1+(size+2)%4]...)
			for len(h.words) < size {
				w = h.tuple(w, integer(len(h.words)), atom)
			}
			h.put(t, c.m, h.base)
			c.becomes(t, space, size)
			for n := range 3 {
				store(t, c.m, c.slot(n), w)
			}
			for range 4 {
				if left := c.collected(t, &r, 1); left != size {
					t.Fatalf("%d words of %d", left, size)
				}
				for n := 1; n < 3; n++ { // the others lead to where it stood
					store(t, c.m, c.slot(n), load(t, c.m, c.slot(0)))
				}
				if left := c.collected(t, &r, 3); left != size {
					t.Fatalf("%d words of %d", left, size)
				}
			}
		}
	}
}

// P23.2: slots that lead to one tuple, or into one another, have it once.
func TestCollectShared(t *testing.T) {
	r := bench.Row(23)
	c := recorded(t, &r, 6, 30, 0)
	h := heap{base: c.space(0)}
	h.tuple(4) // nobody leads there
	x := h.tuple(8)
	y := h.tuple(x, x)
	h.tuple(y)
	z := h.tuple(x, y, 12)
	h.put(t, c.m, h.base)
	c.becomes(t, 0, len(h.words))
	for n, w := range []uint64{x, z, x, integer(5), z, y} {
		store(t, c.m, c.slot(n), w)
	}
	left := []int{0, 2, 9, 9, 9, 9, 9}
	for k := 6; k >= 0; k-- {
		d := &record{c.m.Clone(), c.slots, c.words}
		if n := d.collected(t, &r, k); n != left[k] {
			t.Errorf("with %d slots: %d words, not %d", k, n, left[k])
		}
		if k > 2 && load(t, d.m, d.slot(0)) != load(t, d.m, d.slot(2)) {
			t.Error("one tuple is two")
		}
	}
}

// P23.2, P23.4: over and over, something being laid in between: what is laid behind WAlloc stays, what no slot leads to goes.
func TestCollectOverAndOver(t *testing.T) {
	r := bench.Row(24)
	for range 30 {
		c := recorded(t, &r, 4, 40, 0)
		for n := range c.slots {
			store(t, c.m, c.slot(n), plain(&r))
		}
		collected := 0
		for range 60 {
			alloc := load(t, c.m, c.field(image.WAlloc))
			parts := make([]uint64, 1+r.Next(api.MaxTuple))
			for k := range parts {
				parts[k] = load(t, c.m, c.slot(r.Next(c.slots)))
				if r.Next(3) == 0 {
					parts[k] = plain(&r)
				}
			}
			if word(alloc, 1+len(parts)) > load(t, c.m, c.field(image.WLimit)) {
				c.collected(t, &r, c.slots)
				collected++
				store(t, c.m, c.slot(r.Next(c.slots)), plain(&r))
				continue
			}
			h := heap{base: alloc}
			store(t, c.m, c.slot(r.Next(c.slots)), h.tuple(parts...))
			h.put(t, c.m, alloc)
			store(t, c.m, c.field(image.WAlloc), word(alloc, len(h.words)))
		}
		if collected < 3 {
			t.Errorf("collected %d times", collected)
		}
	}
}
