package value_test

import (
	"slices"
	"testing"

	"postbag/api"
	"postbag/value"
)

func isDecoded(t *testing.T, what string, w uint64, words []uint64, base uint64, want api.Value) {
	t.Helper()
	v, e := value.Decode(w, words, base)
	if e != api.OK || !like(v, want) {
		t.Errorf("%s: %s, %d, not %s", what, value.Text(v), int(e), value.Text(want))
	}
}

func isRefused(t *testing.T, what string, w uint64, words []uint64, base uint64, want api.Errno) {
	t.Helper()
	v, e := value.Decode(w, words, base)
	if e != want || !like(v, api.Value{}) {
		t.Errorf("%s: %s, %d, not %d", what, value.Text(v), int(e), int(want))
	}
}

// P15.4: each kind of word.
func TestDecode(t *testing.T) {
	isDecoded(t, "the chapter's example", 0x41, []uint64{2, 4, 2}, 64, tuple(integer(1), atom(0)))
	isDecoded(t, "0", 0, nil, 0, integer(0))
	isDecoded(t, "-1", ^uint64(3), nil, 8, integer(-1))
	isDecoded(t, "the greatest integer", 1<<63-4, nil, 8, integer(1<<61-1))
	isDecoded(t, "the least integer", 1<<63, nil, 8, integer(-1<<61))
	isDecoded(t, "the first atom", 2, nil, 8, atom(0))
	isDecoded(t, "the last atom", 1<<22-2, nil, 8, atom(1<<20-1))
	isDecoded(t, "the first actor", 3, nil, 8, pid(0))
	isDecoded(t, "the last actor", 1<<22-1, nil, 8, pid(1<<20-1))
	isDecoded(t, "a base that is no multiple of 8", 22, []uint64{1}, 13, atom(5))
	isDecoded(t, "MaxTuple parts", 1, []uint64{4, 4, 8, 12, 16, 20}, 0, tuple(integer(1), integer(2), integer(3), integer(4)))
	isDecoded(t, "a tuple behind others", 64+16+1, []uint64{9, 9, 1, 7, 9}, 64, tuple(pid(1)))
	isDecoded(t, "a tuple ahead of its own", 64+16+1, []uint64{1, 8, 2, 65, 65}, 64, tuple(tuple(integer(2)), tuple(integer(2))))
}

// P15.4: what is wrong with an address, a number of parts, an atom's and an actor's number.
func TestDecodeWrong(t *testing.T) {
	l := []uint64{7, 3, ^uint64(3), 64 + 40 + 1, 11, 1, 14}
	isDecoded(t, "as it should be", 73, l, 64, tuple(integer(-1), tuple(atom(3)), pid(2)))
	for what, w := range map[string]uint64{
		"a number above MaxTuple":         65,
		"an address below base":           57,
		"an address far below":            1,
		"no multiple of 8":                64 + 8 + 4 + 1,
		"an address behind all":           64 + 8*7 + 1,
		"the greatest address":            1<<64 - 7,
		"words that are not all there":    64 + 8*6 + 1,
		"an atom's number above":          1<<22 | 2,
		"an actor's number above":         1<<22 | 3,
		"an atom's number far above":      1<<64 - 2,
		"an actor's number far above":     1<<64 - 1,
		"a number of parts below 0":       64 + 8*2 + 1,
		"a word as a number of parts":     64 + 8*3 + 1,
		"an address that is no word's":    64 + 5,
		"an address behind a multiple":    64 + 13,
		"an address without words at all": 1<<40 + 1,
	} {
		isRefused(t, what, w, l, 64, api.ErrValue)
	}
	isRefused(t, "no words", 65, nil, 64, api.ErrValue)
	isRefused(t, "no parts", 65, []uint64{0, 4}, 64, api.ErrValue)
	isRefused(t, "MaxTuple and one part", 65, []uint64{5, 4, 4, 4, 4, 4, 4}, 64, api.ErrValue)
	isRefused(t, "very many parts", 65, []uint64{1<<64 - 1, 4, 4}, 64, api.ErrValue)
	isRefused(t, "one word too few", 65, []uint64{2, 4}, 64, api.ErrValue)
	isRefused(t, "a number alone", 65, []uint64{1}, 64, api.ErrValue)
	isRefused(t, "a part's atom", 65, []uint64{2, 4, 1<<22 | 2}, 64, api.ErrValue)
	isRefused(t, "a part's address", 65, []uint64{2, 4, 9}, 64, api.ErrValue)
	isRefused(t, "a base that is no multiple of 8", 65, []uint64{1, 4}, 60, api.ErrValue)
	isRefused(t, "a base and an address that are none", 61, []uint64{1, 4}, 60, api.ErrValue)
	isRefused(t, "what stands below base modulo 2^64", 1, []uint64{9, 1, 4}, 1<<64-8, api.ErrValue)
	isDecoded(t, "a base near the end", 1<<64-7, []uint64{1, 4}, 1<<64-8, tuple(integer(1)))
	// What lies behind the list's length is not there.
	room := []uint64{1, 4, 1, 4}
	isRefused(t, "behind the length", 64+16+1, room[:2], 64, api.ErrValue)
	isRefused(t, "half behind the length", 64+16+1, room[:3], 64, api.ErrValue)
}

// chained is so many tuples in one another, the outermost one first, and the word of what stands in them.
func chained(deep int, base, last uint64) []uint64 {
	var l []uint64
	for k := range deep {
		w := base + uint64(16*(k+1)) + 1
		if k == deep-1 {
			w = last
		}
		l = append(l, 1, w)
	}
	return l
}

// P15.4: MaxDepth tuples in one another, and one more.
func TestDecodeDepth(t *testing.T) {
	isDecoded(t, "MaxDepth", 65, chained(api.MaxDepth, 64, 4), 64, nested(api.MaxDepth, integer(1)))
	isRefused(t, "one more", 65, chained(api.MaxDepth+1, 64, 4), 64, api.ErrRoom)
	// One too many is told ahead of what is wrong with its address.
	isRefused(t, "one more that is nowhere", 65, chained(api.MaxDepth, 64, 9), 64, api.ErrRoom)
	isRefused(t, "one more that is no tuple", 65, chained(api.MaxDepth, 64, 64+8+1), 64, api.ErrRoom)
	isRefused(t, "MaxDepth, and an atom that may not be", 65, chained(api.MaxDepth, 64, 1<<22|2), 64, api.ErrValue)
	isRefused(t, "one fewer, and an address that is nowhere", 65, chained(api.MaxDepth-1, 64, 9), 64, api.ErrValue)
	isRefused(t, "a tuple in itself", 65, []uint64{1, 65}, 64, api.ErrRoom)
	isRefused(t, "a tuple in itself, twice", 65, []uint64{2, 65, 65}, 64, api.ErrRoom)
	isRefused(t, "two tuples in one another", 65, []uint64{1, 81, 1, 65}, 64, api.ErrRoom)
}

// P15.4: the first error that is met is told, part by part.
func TestDecodeFirst(t *testing.T) {
	loop := []uint64{2, 65, 9, 2, 9, 65, 2, 4, 1<<22 | 3}
	isRefused(t, "too deep ahead of nowhere", 65, loop, 64, api.ErrRoom)
	isRefused(t, "nowhere ahead of too deep", 65+24, loop, 64, api.ErrValue)
	isRefused(t, "an integer ahead of an actor", 65+48, loop, 64, api.ErrValue)
	// What stands in the first part is met ahead of the second one.
	isRefused(t, "too deep in the first part", 65, []uint64{2, 65 + 24, 2, 1, 65 + 24}, 64, api.ErrRoom)
	isRefused(t, "an atom in the first part", 65, []uint64{2, 65 + 24, 65, 1, 1<<22 | 2}, 64, api.ErrValue)
}

// P15.4: the 4096th part that is met may be, the one behind it not.
func TestDecodeParts(t *testing.T) {
	// A tuple has 5 parts with itself, of which each may be such a one: wide is one of so many parts in all.
	wide := func(parts int) api.Value {
		var build func(parts int) api.Value
		build = func(parts int) api.Value {
			if parts < 2 {
				return integer(parts)
			}
			n := min(api.MaxTuple, parts-1)
			var l []api.Value
			for k := range n {
				l = append(l, build((parts-1+k)/n))
			}
			return tuple(l...)
		}
		return build(parts)
	}
	var count func(v api.Value) int
	count = func(v api.Value) int {
		n := 1
		for _, p := range v.Args {
			n += count(p)
		}
		return n
	}
	for _, parts := range []int{4000, 4095, 4096, 4097, 4098, 5000} {
		v := wide(parts)
		if count(v) != parts {
			t.Fatal(parts, count(v))
		}
		w, l, e := value.Encode(v, nil, 8)
		if e != api.OK {
			t.Fatal(parts, int(e))
		}
		if parts <= 4096 {
			isDecoded(t, "so many parts", w, l, 8, v)
		} else {
			isRefused(t, "so many parts", w, l, 8, api.ErrRoom)
		}
	}
	// The part that is one too many has an error of its own: that one is told behind ErrRoom.
	w, l, _ := value.Encode(wide(4097), nil, 8)
	last := len(l) - 1
	l[last] = 1<<22 | 2
	isRefused(t, "the 4097th part is an atom that may not be", w, l, 8, api.ErrRoom)
	l[last] = 1
	isRefused(t, "the 4097th part is nowhere", w, l, 8, api.ErrRoom)
	w, l, _ = value.Encode(wide(4096), nil, 8)
	l[len(l)-1] = 1<<22 | 2
	isRefused(t, "the 4096th part is an atom that may not be", w, l, 8, api.ErrValue)
	// Few words that are met very often.
	l = nil
	for k := range 40 {
		at := 64 + uint64(24*(k+1)) + 1
		l = append(l, 2, at, at)
	}
	isRefused(t, "tuples met twice", 65, append(l, 1, 4), 64, api.ErrRoom)
}

// plainly decodes a second time: all parts are met in a row, from a list of those that are left.
func plainly(w uint64, words []uint64, base uint64) (string, api.Errno) {
	type left struct {
		w     uint64
		deep  int
		texts string // what stands behind it
	}
	list, text := []left{{w, 0, ""}}, ""
	for met := 1; len(list) > 0; met++ {
		x := list[0]
		list = list[1:]
		if met > 4096 {
			return "", api.ErrRoom
		}
		n := x.w / 4
		switch x.w % 4 {
		case 0:
			text += value.Text(integer(int(x.w)/4)) + x.texts
		case 2, 3:
			if n >= 1<<20 {
				return "", api.ErrValue
			}
			text += value.Text(api.Value{Kind: int(x.w % 4), N: int(n)}) + x.texts
		default:
			if x.deep >= 64 {
				return "", api.ErrRoom
			}
			at := -1
			for k := range words {
				if base+8*uint64(k) == x.w-1 && x.w%8 == 1 && x.w-1 >= base {
					at = k
				}
			}
			if at < 0 || words[at] < 1 || words[at] > 4 || at+int(words[at]) >= len(words) {
				return "", api.ErrValue
			}
			var parts []left
			for _, p := range words[at+1 : at+1+int(words[at])] {
				parts = append(parts, left{p, x.deep + 1, ","})
			}
			parts[len(parts)-1].texts = "}" + x.texts
			text += "{"
			list = slices.Concat(parts, list)
		}
	}
	return text, api.OK
}

// P15.4: thrown words, held against a second telling: tuples that lead to one another, with a word here and there that is another one.
func TestDecodePlainly(t *testing.T) {
	r := row(6)
	errors := map[api.Errno]int{}
	for range 20000 {
		base := one(&r, uint64(0), 64, 64, 64, 4096, 4096, 1<<64-24, 1<<63, 12)
		begins := []int{0}
		for range r.next(5) {
			begins = append(begins, begins[len(begins)-1]+2+r.next(4))
		}
		end := begins[len(begins)-1] + 2 + r.next(4)
		var l []uint64
		for k := range end {
			w := uint64(r.number()) << 2
			switch r.next(3) {
			case 0:
				w = base + 8*uint64(one(&r, begins...)) + 1
			case 1:
				w = uint64(one(&r, 0, 5, 77, 1<<20-1))<<2 | uint64(2+r.next(2))
			}
			if slices.Contains(begins, k) {
				w = uint64(slices.Min(slices.DeleteFunc(append(slices.Clone(begins), end), func(n int) bool { return n <= k })) - k - 1)
			}
			if r.next(60) == 0 {
				w = one(&r, w+1, w^4, base+1-8, base+uint64(8*end)+1, base+uint64(r.next(8*end)), 1<<22|2, 1<<22|3, 1<<64-1)
			}
			l = append(l, w)
		}
		w := base + 8*uint64(one(&r, begins...)) + 1
		v, e := value.Decode(w, l, base)
		text, f := plainly(w, l, base)
		if e != f || e == api.OK && value.Text(v) != text || e != api.OK && !like(v, api.Value{}) {
			t.Fatalf("%#x, %#x at %#x: %s, %d, not %s, %d", w, l, base, value.Text(v), int(e), text, int(f))
		}
		if e == api.OK && !value.Good(v) {
			t.Fatalf("%s may not be", value.Text(v))
		}
		errors[e]++
	}
	if errors[api.OK] < 1000 || errors[api.ErrValue] < 1000 || errors[api.ErrRoom] < 1000 {
		t.Errorf("%d right, %d ErrValue, %d ErrRoom", errors[api.OK], errors[api.ErrValue], errors[api.ErrRoom])
	}
}

// P15.5: what was encoded is decoded as it, whatever stood ahead.
func TestBack(t *testing.T) {
	r := row(7)
	for range 3000 {
		var words []uint64
		for range r.next(6) {
			words = append(words, uint64(r.next(1<<31))<<r.next(33))
		}
		base := one(&r, uint64(0), 8, 64, 4096, 1<<40, 1<<63, 1<<64-1<<20)
		v := r.value(r.next(5))
		w, l, e := value.Encode(v, words, base)
		if e != api.OK || len(l) != len(words)+value.Words(v) || !slices.Equal(l[:len(words)], words) {
			t.Fatalf("%s: %d, %d words", value.Text(v), int(e), len(l))
		}
		isDecoded(t, "back", w, l, base, v)
		// And with something behind it, to which a second value is laid.
		other := r.value(2)
		u, l, _ := value.Encode(other, append(l, 99), base)
		isDecoded(t, "back, with more behind it", w, l, base, v)
		isDecoded(t, "another one", u, l, base, other)
	}
	for _, v := range []api.Value{shared(5, 4, atom(3)), nested(64, pid(1)), tuple(nested(63, integer(-1)), nested(63, atom(2)))} {
		w, l, _ := value.Encode(v, []uint64{5}, 80)
		isDecoded(t, "back", w, l, 80, v)
	}
}
