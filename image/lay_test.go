package image_test

import (
	"math"
	"testing"

	"postbag/api"
	"postbag/image"
)

// wild are numbers of which no field may be one.
func wild() []int { return []int{math.MinInt, -1 << 32, -1, 1 << 31, 1<<32 + 8, 1 << 62, math.MaxInt} }

// P20.1: each field at both ends, and one beyond.
func TestGood(t *testing.T) {
	if !image.Good(least()) || !image.Good(most()) || image.Good(api.Conf{}) {
		t.Error("the ends")
	}
	for _, f := range fields() {
		for _, c := range []api.Conf{least(), most()} {
			for n, want := range map[int]bool{f.first - 1: false, f.first: true, f.first + 1: true, f.last - 1: true, f.last: true, f.last + 1: false} {
				*f.of(&c) = n
				if image.Good(c) != want {
					t.Errorf("%s of %d", f.name, n)
				}
			}
			for _, n := range append(wild(), 0) {
				*f.of(&c) = n
				if l, e := image.Lay(c, 1, 1); image.Good(c) || e != api.ErrArg || l != (api.Layout{}) {
					t.Errorf("%s of %d: error %d", f.name, n, int(e))
				}
			}
		}
	}
}

// P20.1: where all stands.
func TestLay(t *testing.T) {
	for _, c := range []struct {
		c           api.Conf
		code, slots int
		want        api.Layout
	}{
		{api.Conf{Harts: 1, Actors: 2, Blocks: 3, Words: 8, Budget: 1}, 10, 4, api.Layout{Globals: 64, Actors: 128, ActorSize: 256, Blocks: 640, BlockSize: 256, End: 1408, Slots: 4}},
		{least(), 0, 1, api.Layout{Globals: 0, Actors: 64, ActorSize: 232, Blocks: 296, BlockSize: 256, End: 552, Slots: 1}},
		{least(), 1, 1, api.Layout{Globals: 64, Actors: 128, ActorSize: 232, Blocks: 360, BlockSize: 256, End: 616, Slots: 1}},
		{least(), 15, 1, api.Layout{Globals: 64, Actors: 128, ActorSize: 232, Blocks: 360, BlockSize: 256, End: 616, Slots: 1}},
		{least(), 16, 1, api.Layout{Globals: 64, Actors: 128, ActorSize: 232, Blocks: 360, BlockSize: 256, End: 616, Slots: 1}},
		{least(), 17, 1, api.Layout{Globals: 128, Actors: 192, ActorSize: 232, Blocks: 424, BlockSize: 256, End: 680, Slots: 1}},
		{least(), 32, 2, api.Layout{Globals: 128, Actors: 192, ActorSize: 240, Blocks: 432, BlockSize: 256, End: 688, Slots: 2}},
		{most(), 65536, 256, api.Layout{Globals: 262144, Actors: 262208, ActorSize: 18528, Blocks: 1448000, BlockSize: 256, End: 1513536, Slots: 256}},
		{most(), 65535, 255, api.Layout{Globals: 262144, Actors: 262208, ActorSize: 18520, Blocks: 1447488, BlockSize: 256, End: 1513024, Slots: 255}},
	} {
		if l := lay(t, c.c, c.code, c.slots); l != c.want {
			t.Errorf("%+v, %d, %d: %+v", c.c, c.code, c.slots, l)
		}
	}
}

// P20.1: code and slots at their ends, and one beyond.
func TestLayRefuses(t *testing.T) {
	for _, c := range []api.Conf{least(), most()} {
		for code, want := range map[int]api.Errno{-1: api.ErrArg, 0: api.OK, 1: api.OK, 65535: api.OK, 65536: api.OK, 65537: api.ErrArg} {
			if l, e := image.Lay(c, code, 1); e != want || e != api.OK && l != (api.Layout{}) {
				t.Errorf("%d words: error %d, %+v", code, int(e), l)
			}
		}
		for slots, want := range map[int]api.Errno{-1: api.ErrArg, 0: api.ErrArg, 1: api.OK, 2: api.OK, 255: api.OK, 256: api.OK, 257: api.ErrArg} {
			if l, e := image.Lay(c, 1, slots); e != want || e != api.OK && l != (api.Layout{}) {
				t.Errorf("%d slots: error %d, %+v", slots, int(e), l)
			}
		}
		for _, n := range wild() {
			if _, e := image.Lay(c, n, 1); e != api.ErrArg {
				t.Errorf("%d words: error %d", n, int(e))
			}
			if _, e := image.Lay(c, 1, n); e != api.ErrArg {
				t.Errorf("%d slots: error %d", n, int(e))
			}
		}
	}
}

// P20.1: whatever may be has room: End is never above MaxMemory, and there is no ErrImage.
func TestTheGreatestHasRoom(t *testing.T) {
	if l := lay(t, most(), api.MaxCode, 256); l.End > api.MaxMemory {
		t.Error(l.End)
	}
}

// P20.1: of thrown configs, held against a plain second telling; Harts and Budget count for nothing.
func TestLayPlainly(t *testing.T) {
	r := row(1)
	for range 3000 {
		c, code, slots := r.conf(), r.from(0, 65536), r.from(1, 256)
		l := lay(t, c, code, slots)
		if want := plainLay(c, code, slots); l != want {
			t.Fatalf("%+v, %d, %d: %+v, not %+v", c, code, slots, l, want)
		}
		c.Harts, c.Budget = r.from(1, 8), r.from(1, 1000)
		if again := lay(t, c, code, slots); again != l {
			t.Fatalf("%+v, not %+v", again, l)
		}
	}
}

// P20.1: where records and blocks stand.
func TestActorAndBlock(t *testing.T) {
	l := lay(t, api.Conf{Harts: 1, Actors: 2, Blocks: 3, Words: 8, Budget: 1}, 10, 4)
	for n, want := range []uint64{128, 384, 640} {
		if at := image.Actor(l, n); at != want {
			t.Errorf("actor %d at %d", n, at)
		}
	}
	for n, want := range []uint64{640, 896, 1152, 1408} {
		if at := image.Block(l, n); at != want {
			t.Errorf("block %d at %d", n, at)
		}
	}
	// Of a layout that no call laid, too: it is asked for nothing but these fields.
	odd := api.Layout{Actors: 5, ActorSize: 3, Blocks: 1 << 40, BlockSize: 7}
	if image.Actor(odd, 4) != 17 || image.Block(odd, 10) != 1<<40+70 || image.Actor(api.Layout{}, 9) != 0 || image.Block(api.Layout{}, 9) != 0 {
		t.Error(image.Actor(odd, 4), image.Block(odd, 10))
	}
	for _, n := range wild() {
		if image.Actor(odd, n)-3*uint64(n) != 5 || image.Block(odd, n)-7*uint64(n) != 1<<40 {
			t.Errorf("%d: %d, %d", n, image.Actor(odd, n), image.Block(odd, n))
		}
	}
}

// P20.3: globals, records, blocks stand one behind the other, on multiples of 8, within End.
func TestApart(t *testing.T) {
	r := row(2)
	for range 2000 {
		c, code, slots := r.conf(), r.from(0, 65536), r.from(1, 256)
		l := lay(t, c, code, slots)
		at := uint64(4 * code)
		part := func(from, bytes uint64, what string) {
			if from < at || from%8 != 0 {
				t.Fatalf("%+v, %d, %d: %s at %d, behind %d", c, code, slots, what, from, at)
			}
			at = from + bytes
		}
		part(l.Globals, 8*image.Globals, "the globals")
		for n := range c.Actors {
			part(image.Actor(l, n), uint64(8*(image.WSlots+slots+2*c.Words)), "a record")
		}
		for n := range c.Blocks {
			part(image.Block(l, n), 8*image.BlockWords, "a block")
		}
		part(l.End, 0, "the end")
		if l.End > api.MaxMemory || l.Code != 0 || l.Globals%64 != 0 || l.Globals >= uint64(4*code)+64 {
			t.Fatalf("%+v, %d, %d: %+v", c, code, slots, l)
		}
	}
}

// P20.1: the numbers of words.
func TestWordsOfRecords(t *testing.T) {
	names := []int{image.WState, image.WPC, image.WTail, image.WHead, image.WStub, image.WSave, image.WLast, image.WHeap, image.WAlloc, image.WLimit, image.WOther, image.WDead, image.WSlots}
	for n, w := range names {
		if w != n {
			t.Errorf("word %d is %d", n, w)
		}
	}
	if image.GTop != 0 || image.GNext != 1 || image.GLive != 2 || image.GLock != 3 || image.GFull != 4 || image.Globals != 8 {
		t.Error("the globals")
	}
	if image.BNext != 0 || image.BRoot != 1 || image.BData != 2 || image.BlockWords != 32 {
		t.Error("a block")
	}
}
