package copying_test

import (
	"encoding/binary"
	"slices"
	"strconv"
	"sync"
	"testing"

	"postbag/api"
	"postbag/bench"
	"postbag/copying"
	"postbag/hart"
	"postbag/image"
	"postbag/items"
	"postbag/memory"
	"postbag/value"
)

// Where all stands in the tests' memory: the code at 0, what is copied, and room for what is laid.
const (
	oldAt  = 1 << 12
	newAt  = 1 << 15
	memEnd = 1 << 16
)

// bound is how many words, or letters, of a value are looked at that has very many.
const bound = 3600

// most is how many instructions a copy comes to its end by.
const most = 1 << 20

// Tags of words.
const (
	tuple = 1
	atom  = 2
	pid   = 3
)

func integer(n int) uint64 { return uint64(n) << 2 }

// word is where the n-th word behind a place stands.
func word(at uint64, n int) uint64 { return at + 8*uint64(n) }

func load(t testing.TB, m *memory.Memory, at uint64) uint64 {
	v, e := m.Load(at, 8)
	if e != api.OK {
		t.Fatalf("at %d: error %d", at, int(e))
	}
	return v
}

func store(t testing.TB, m *memory.Memory, at, v uint64) {
	t.Helper()
	if e := m.Store(at, 8, v); e != api.OK {
		t.Fatalf("at %d: error %d", at, int(e))
	}
}

// words are so many words from a place on.
func words(t testing.TB, m *memory.Memory, at uint64, n int) []uint64 {
	t.Helper()
	b, e := m.Bytes(at, 8*n)
	if e != api.OK {
		t.Fatalf("at %d: error %d", at, int(e))
	}
	l := make([]uint64, n)
	for k := range l {
		l[k] = binary.LittleEndian.Uint64(b[8*k:])
	}
	return l
}

// kinds are all of them.
func kinds() []int { return []int{copying.Out, copying.In, copying.Own, copying.Move} }

// routines are all of the layer, one behind the other.
func routines() []api.Item {
	var l []api.Item
	for _, kind := range kinds() {
		l = append(l, copying.Copy(kind)...)
	}
	return append(l, copying.Collect()...)
}

// littered tells a memory in which any numbers stand.
func littered(t testing.TB, r *bench.Row, size int) *memory.Memory {
	t.Helper()
	b := make([]byte, 0, size)
	for v := r.Word(); len(b) < size; v = v*6364136223846793005 + 1 {
		b = binary.LittleEndian.AppendUint64(b, v)
	}
	m := memory.New(size)
	if e := m.Put(0, b); e != api.OK {
		t.Fatal(int(e))
	}
	return m
}

// calls is code that calls each of the routines, and the routines behind it.
var calls = sync.OnceValues(func() ([]byte, map[string]uint64) {
	m := memory.New(oldAt)
	var l []api.Item
	for name := range named() {
		w := items.Begin("to." + name)
		w.Jump(items.From, name)
		w.Label("from." + name)
		w.Inst(api.Inst{Op: api.OpEbreak})
		l = append(l, w.Items()...)
	}
	at, e := bench.Lay(m, 0, l, routines())
	if e != api.OK {
		panic(e)
	}
	b, _ := m.Bytes(0, oldAt)
	return b, at
})

// called lets a hart call a routine with what x has, and tells what it has when it is back.
func called(t testing.TB, m *memory.Memory, routine string, x [32]uint64) [32]uint64 {
	t.Helper()
	code, at := calls()
	if e := m.Put(0, code); e != api.OK {
		t.Fatal(int(e))
	}
	h, _, e := hart.Run(hart.Hart{X: x, PC: at["to."+routine]}, m, most)
	if e != api.ErrHalt || h.PC != at["from."+routine] {
		t.Fatalf("%s: error %d at %d", routine, int(e), h.PC)
	}
	if h.X[items.From] != at["from."+routine] {
		t.Fatalf("%s: register 1 has %d, not where it was called from", routine, h.X[items.From])
	}
	return h.X
}

// A heap is words that stand somewhere; base is what stands in the address of its first one.
type heap struct {
	base  uint64
	words []uint64
}

// tuple lays a tuple, and tells its word.
func (h *heap) tuple(parts ...uint64) uint64 {
	w := word(h.base, len(h.words)) + tuple
	h.words = append(append(h.words, uint64(len(parts))), parts...)
	return w
}

// put puts the heap's words into a memory.
func (h *heap) put(t testing.TB, m *memory.Memory, at uint64) {
	t.Helper()
	for k, w := range h.words {
		store(t, m, word(at, k), w)
	}
}

// plain is any word of no tuple.
func plain(r *bench.Row) uint64 {
	switch r.Next(4) {
	case 0:
		return integer(r.Next(100) - 50)
	case 1:
		return r.Word() &^ 3
	case 2:
		return uint64(r.Next(1<<20))<<2 | atom
	}
	return uint64(r.Next(1<<20))<<2 | pid
}

// any lays some tuples, of which each leads to some that were laid ahead of it; shared of 8 parts that are tuples are one that another one has, too. The last one's word is told.
func (h *heap) any(r *bench.Row, tuples, shared int) uint64 {
	var free, all []uint64
	last := uint64(0)
	for range tuples {
		parts := make([]uint64, 1+r.Next(api.MaxTuple))
		for k := range parts {
			switch n := len(free); {
			case n > 0 && r.Next(8) >= shared && r.Next(3) > 0:
				at := n - 1 - r.Next(min(n, 3))
				parts[k] = free[at]
				free = slices.Delete(free, at, at+1)
			case len(all) > 0 && r.Next(8) < shared:
				parts[k] = all[len(all)-1-r.Next(min(len(all), 6))]
			default:
				parts[k] = plain(r)
			}
		}
		last = h.tuple(parts...)
		free = append(free, last)
		all = append(all, last)
	}
	return last
}

// A view is how words lead to tuples.
type view struct {
	load func(at uint64) uint64
	base uint64 // what is behind an address, as it stands in a word
}

// in tells the view of a memory: of what stands in a block base is the block's address.
func in(t testing.TB, m *memory.Memory, base uint64) view {
	return view{func(at uint64) uint64 { return load(t, m, at) }, base}
}

// parts are the words of a tuple.
func (v view) parts(w uint64) []uint64 {
	at := v.base + w - tuple
	var l []uint64
	for k := range v.load(at) {
		l = append(l, v.load(word(at, int(k)+1)))
	}
	return l
}

// size is how many words a value has that is laid with each tuple as often as it is met; no more are counted than bound.
func (v view) size(w uint64, bound int) int {
	if w&3 != tuple {
		return 0
	}
	parts := v.parts(w)
	n := 1 + len(parts)
	for _, p := range parts {
		if n > bound {
			break
		}
		n += v.size(p, bound-n)
	}
	return n
}

// met are the tuples' words to which a value leads, each once.
func (v view) met(w uint64) []uint64 {
	var l []uint64
	for left := []uint64{w}; len(left) > 0; left = left[1:] {
		if w := left[0]; w&3 == tuple && !slices.Contains(l, w) {
			l = append(l, w)
			left = append(left, v.parts(w)...)
		}
	}
	return l
}

// once is how many words a value has that is laid with each tuple once.
func (v view) once(w uint64) int {
	n := 0
	for _, w := range v.met(w) {
		n += 1 + len(v.parts(w))
	}
	return n
}

// text tells a value, as far as it is not longer than bound.
func (v view) text(w uint64, bound int) string {
	if w&3 != tuple {
		return strconv.FormatUint(w, 16)
	}
	s := "{"
	for _, p := range v.parts(w) {
		if len(s) > bound {
			break
		}
		s += v.text(p, bound-len(s)) + ","
	}
	return s + "}"
}

// decoded tells what value's Decode does of a word, of so many words that stand from a place on; base is the place as it stands in words.
func decoded(t testing.TB, m *memory.Memory, w, at uint64, n int, base uint64) (string, api.Errno) {
	t.Helper()
	v, e := value.Decode(w, words(t, m, at, n), base)
	return value.Text(v), e
}

// blockWords are those of a block that can have tuples.
const blockWords = image.BlockWords - image.BData
