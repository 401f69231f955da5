package value_test

import (
	"math"
	"slices"
	"testing"

	"postbag/api"
	"postbag/value"
)

// P15.3: how many words the tuples have in all.
func TestWords(t *testing.T) {
	for what, x := range map[string]struct {
		v     api.Value
		words int
	}{
		"an integer":          {integer(7), 0},
		"an atom":             {atom(7), 0},
		"an actor":            {pid(7), 0},
		"a tuple of one":      {tuple(integer(7)), 2},
		"a tuple of four":     {tuple(integer(7), atom(1), pid(2), integer(3)), 5},
		"a tuple in one":      {tuple(tuple(integer(7))), 4},
		"three tuples":        {tuple(integer(-1), tuple(atom(3)), pid(2), tuple(tuple(integer(1), integer(2)))), 12},
		"MaxDepth tuples":     {nested(api.MaxDepth, integer(1)), 2 * api.MaxDepth},
		"one too many":        {nested(api.MaxDepth+1, integer(1)), 0},
		"a part that may not": {tuple(integer(1), tuple(integer(2), pid(-1))), 0},
		"nothing":             {api.Value{}, 0},
		"a shared list":       {shared(40, 2, integer(1)), 3 * (1<<40 - 1)},
		"a list shared twice": {tuple(shared(3, 4, atom(1)), shared(3, 4, atom(1))), 3 + 2*5*21},
		// Beyond all that is promised, and no number of the type.
		"more than there are numbers": {shared(64, 4, integer(1)), math.MaxInt},
	} {
		if n := value.Words(x.v); n != x.words {
			t.Errorf("%s: %d, not %d", what, n, x.words)
		}
	}
}

func isEncoded(t *testing.T, v api.Value, words []uint64, base, w uint64, behind ...uint64) {
	t.Helper()
	got, l, e := value.Encode(v, words, base)
	if want := slices.Concat(words, behind); e != api.OK || got != w || !slices.Equal(l, want) {
		t.Errorf("%s at %#x: %#x, %#x, %d, not %#x, %#x", value.Text(v), base, got, l, int(e), w, want)
	}
}

// P15.3: words of each kind, and tuples' words in their order.
func TestEncode(t *testing.T) {
	isEncoded(t, tuple(integer(1), atom(0)), nil, 64, 0x41, 2, 4, 2) // the chapter's example
	isEncoded(t, integer(0), nil, 0, 0)
	isEncoded(t, integer(5), nil, 8, 20)
	isEncoded(t, integer(-1), nil, 64, ^uint64(3))
	isEncoded(t, integer(1<<61-1), nil, 64, 1<<63-4)
	isEncoded(t, integer(-1<<61), nil, 64, 1<<63)
	isEncoded(t, atom(0), nil, 64, 2)
	isEncoded(t, atom(1<<20-1), nil, 64, 1<<22-2)
	isEncoded(t, pid(0), nil, 64, 3)
	isEncoded(t, pid(1<<20-1), nil, 64, 1<<22-1)
	isEncoded(t, pid(5), []uint64{9, 8, 7}, 64, 23)
	isEncoded(t, tuple(pid(1)), []uint64{9, 8, 7}, 64, 64+24+1, 1, 7)
	isEncoded(t, tuple(integer(1)), nil, 0, 1, 1, 4)
	// First all of its own, then those of its parts, part by part: what stands in a part comes ahead of the part behind that.
	isEncoded(t, tuple(tuple(tuple(integer(1)), integer(2)), integer(3), tuple(integer(4))), nil, 0, 1,
		3, 4*8+1, 12, 9*8+1,
		2, 7*8+1, 8,
		1, 4,
		1, 16)
	isEncoded(t, nested(3, atom(1)), []uint64{0}, 800, 809, 1, 825, 1, 841, 1, 6)
	// A list that is shared is laid as often as it stands there.
	isEncoded(t, shared(2, 2, integer(1)), nil, 80, 81, 2, 80+24+1, 80+48+1, 2, 4, 4, 2, 4, 4)
}

// P15.3: a base near 2^64: the words stand modulo that.
func TestEncodeNearTheEnd(t *testing.T) {
	isEncoded(t, integer(1), nil, 1<<64-8, 4)
	isEncoded(t, tuple(integer(1)), nil, 1<<64-8, 1<<64-7, 1, 4)
	isEncoded(t, tuple(integer(1)), []uint64{5}, 1<<64-8, 1, 1, 4)
	isEncoded(t, tuple(tuple(integer(1)), atom(0)), nil, 1<<64-16, 1<<64-15, 2, 9, 2, 1, 4)
}

// P15.3: a base that is no multiple of 8, whatever the value.
func TestEncodeBase(t *testing.T) {
	for _, base := range []uint64{1, 2, 4, 7, 9, 63, 1<<64 - 1, 1<<63 + 4} {
		for _, v := range []api.Value{integer(1), tuple(integer(1))} {
			if w, l, e := value.Encode(v, []uint64{1, 2}, base); w != 0 || len(l) != 0 || e != api.ErrValue {
				t.Errorf("%d: %d, %v, %d", base, w, l, int(e))
			}
		}
	}
}

// P15.3: the words that were there stay, and neither the list that came in nor the room behind it changes.
func TestEncodeBehind(t *testing.T) {
	room := []uint64{1, 2, 3, 70, 71, 72, 73, 74}
	l := room[:3]
	v := tuple(integer(1), atom(2))
	_, first, _ := value.Encode(v, l, 8)
	_, second, _ := value.Encode(tuple(pid(5)), l, 8)
	if !slices.Equal(room, []uint64{1, 2, 3, 70, 71, 72, 73, 74}) {
		t.Errorf("written into: %d", room)
	}
	if !slices.Equal(first, []uint64{1, 2, 3, 2, 4, 10}) || !slices.Equal(second, []uint64{1, 2, 3, 1, 23}) {
		t.Errorf("%d, %d", first, second)
	}
	if !like(v, tuple(integer(1), atom(2))) {
		t.Errorf("%s", value.Text(v))
	}
}
