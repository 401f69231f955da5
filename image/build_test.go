package image_test

import (
	"fmt"
	"slices"
	"testing"

	"postbag/api"
	"postbag/image"
	"postbag/memory"
)

// bytesOf are all bytes of a memory.
func bytesOf(t *testing.T, m *memory.Memory) []byte {
	t.Helper()
	b, e := m.Bytes(0, m.Len())
	if e != api.OK {
		t.Fatal(int(e))
	}
	return b
}

// plainBuild tells plainly the bytes that Build is to lay.
func plainBuild(c api.Conf, l api.Layout, words []uint32) []byte {
	b := make([]byte, l.End)
	for n, w := range words {
		b[4*n], b[4*n+1], b[4*n+2], b[4*n+3] = byte(w), byte(w>>8), byte(w>>16), byte(w>>24)
	}
	b[l.Globals], b[l.Globals+16] = 1, 1
	for n := 2; n <= c.Blocks; n++ {
		at := l.Blocks + uint64(256*(n-2))
		b[at], b[at+1] = byte(n), byte(n>>8)
	}
	return b
}

// P20.2: the example's memory.
func TestBuildOfTheExample(t *testing.T) {
	c := api.Conf{Harts: 1, Actors: 2, Blocks: 3, Words: 8, Budget: 1}
	l := lay(t, c, 10, 4)
	m := built(t, c, l, []uint32{0x00500093, 0xffffffff, 3, 4, 5, 6, 7, 8, 9, 0x80000001})
	if m.Len() != 1408 {
		t.Error(m.Len())
	}
	set := map[uint64]uint64{0: 0xffffffff00500093, 8: 4<<32 | 3, 16: 6<<32 | 5, 24: 8<<32 | 7, 32: 0x80000001_00000009, 64: 1, 80: 1, 640: 2, 896: 3}
	for at := uint64(0); at < 1408; at += 8 {
		if v, e := m.Load(at, 8); e != api.OK || v != set[at] {
			t.Errorf("at %d: %#x, error %d", at, v, int(e))
		}
	}
}

// P20.2: of thrown configs and words, held against a plain second telling; one block, and none linked, among them.
func TestBuildPlainly(t *testing.T) {
	r := row(3)
	for n := range 400 {
		c := r.conf()
		c.Blocks = []int{1, 2, c.Blocks, 256}[n%4]
		words := r.words([]int{0, 1, r.next(200), 16 * r.next(20)}[r.next(4)])
		l := lay(t, c, len(words), r.from(1, 256))
		if m := built(t, c, l, words); !slices.Equal(bytesOf(t, m), plainBuild(c, l, words)) {
			t.Fatalf("%+v, %d words", c, len(words))
		}
	}
	words := r.words(api.MaxCode)
	l := lay(t, most(), len(words), 256)
	if m := built(t, most(), l, words); !slices.Equal(bytesOf(t, m), plainBuild(most(), l, words)) {
		t.Error("the greatest")
	}
}

// P20.2: the last block leads to none; one block alone does not.
func TestTheLastBlock(t *testing.T) {
	for _, blocks := range []int{1, 2, 255, 256} {
		c := least()
		c.Blocks = blocks
		l := lay(t, c, 0, 1)
		m := built(t, c, l, nil)
		for n := range blocks {
			want := uint64(n + 2)
			if n == blocks-1 {
				want = 0
			}
			if v, _ := m.Load(image.Block(l, n), 8); v != want {
				t.Errorf("of %d blocks number %d leads to %d", blocks, n, v)
			}
		}
		if v, _ := m.Load(l.Globals+8*image.GTop, 8); v != 1 {
			t.Errorf("of %d blocks the first free one is %d", blocks, v)
		}
	}
}

// refused tells it where something was built.
func refused(t *testing.T, what string, c api.Conf, l api.Layout, words []uint32) {
	t.Helper()
	if m, e := image.Build(c, l, words); e != api.ErrArg || m != nil {
		t.Errorf("%s: error %d, %v", what, int(e), m)
	}
}

// P20.2: a layout of which one field is another.
func TestBuildOfAnotherLayout(t *testing.T) {
	c := api.Conf{Harts: 2, Actors: 2, Blocks: 3, Words: 8, Budget: 5}
	words := make([]uint32, 10)
	laid := lay(t, c, 10, 4)
	built(t, c, laid, words)
	for _, d := range []uint64{1, 8, 64, 1 << 63, ^uint64(0)} {
		for n := range 7 {
			l := laid
			*[]*uint64{&l.Code, &l.Globals, &l.Actors, &l.ActorSize, &l.Blocks, &l.BlockSize, &l.End}[n] += d
			refused(t, fmt.Sprint("field ", n), c, l, words)
		}
	}
	for _, slots := range append(wild(), 0, 3, 5, 256, 257) {
		l := laid
		l.Slots = slots
		refused(t, fmt.Sprint("slots ", slots), c, l, words)
	}
	refused(t, "none", c, api.Layout{}, words)
	refused(t, "none, without words", c, api.Layout{}, nil)
	refused(t, "none of no config", api.Conf{}, api.Layout{}, nil)
}

// P20.2: a layout that is another config's, or was laid for other words.
func TestBuildOfOthers(t *testing.T) {
	c := api.Conf{Harts: 2, Actors: 2, Blocks: 3, Words: 8, Budget: 5}
	laid := lay(t, c, 10, 4)
	for _, f := range fields() {
		for _, n := range []int{f.first - 1, f.last + 1, f.last} {
			other := c
			*f.of(&other) = n
			if n == f.last && (f.name == "Harts" || f.name == "Budget") { // these a layout does not tell
				built(t, other, laid, make([]uint32, 10))
				continue
			}
			refused(t, fmt.Sprint(f.name, n), other, laid, make([]uint32, 10))
		}
	}
	for n, good := range map[int]bool{0: false, 1: true, 9: true, 16: true, 17: false, 65536: false, 65537: false} {
		if good { // as many words have the same layout
			built(t, c, laid, make([]uint32, n))
			continue
		}
		refused(t, fmt.Sprint(n, " words"), c, laid, make([]uint32, n))
	}
}

// Rules 4 and 8: what is handed in stays as it was, what lies behind its length is not read, and no answer is kept.
func TestKept(t *testing.T) {
	c, spare := least(), []uint32{1, 2, 3, 4}
	l := lay(t, c, 2, 1)
	m := built(t, c, l, spare[:2])
	if v, _ := m.Load(8, 8); v != 0 {
		t.Errorf("%#x behind the words", v)
	}
	for at := uint64(0); at < l.End; at += 8 {
		m.Store(at, 8, ^uint64(0))
	}
	again := built(t, c, l, spare[:2])
	if !slices.Equal(bytesOf(t, again), plainBuild(c, l, spare[:2])) || !slices.Equal(spare, []uint32{1, 2, 3, 4}) {
		t.Error("what is built hangs on an answer")
	}
}
