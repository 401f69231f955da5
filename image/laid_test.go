package image_test

import (
	"testing"

	"postbag/api"
	"postbag/image"
	"postbag/memory"
)

// least, most are the configs with the least and the greatest of all.
func least() api.Conf { return api.Conf{Harts: 1, Actors: 1, Blocks: 1, Words: 8, Budget: 1} }

func most() api.Conf { return api.Conf{Harts: 8, Actors: 64, Blocks: 256, Words: 1024, Budget: 1000} }

// field is one of a config, with its ends.
type field struct {
	name        string
	of          func(c *api.Conf) *int
	first, last int
}

func fields() []field {
	return []field{
		{"Harts", func(c *api.Conf) *int { return &c.Harts }, 1, 8},
		{"Actors", func(c *api.Conf) *int { return &c.Actors }, 1, 64},
		{"Blocks", func(c *api.Conf) *int { return &c.Blocks }, 1, 256},
		{"Words", func(c *api.Conf) *int { return &c.Words }, 8, 1024},
		{"Budget", func(c *api.Conf) *int { return &c.Budget }, 1, 1000},
	}
}

// lay is a layout that may be.
func lay(t *testing.T, c api.Conf, code, slots int) api.Layout {
	t.Helper()
	l, e := image.Lay(c, code, slots)
	if e != api.OK {
		t.Fatalf("%+v, %d words, %d slots: error %d", c, code, slots, int(e))
	}
	return l
}

// built is a memory that may be.
func built(t *testing.T, c api.Conf, l api.Layout, words []uint32) *memory.Memory {
	t.Helper()
	m, e := image.Build(c, l, words)
	if e != api.OK || m == nil {
		t.Fatalf("%+v, %+v, %d words: error %d", c, l, len(words), int(e))
	}
	return m
}

// plainLay tells plainly what Lay is to tell of what may be.
func plainLay(c api.Conf, code, slots int) api.Layout {
	globals := 0
	for globals < 4*code {
		globals += 64
	}
	record := 8 * (12 + slots + c.Words + c.Words)
	blocks := globals + 64
	for range c.Actors {
		blocks += record
	}
	end := blocks
	for range c.Blocks {
		end += 256
	}
	return api.Layout{
		Globals: uint64(globals), Actors: uint64(globals) + 64, ActorSize: uint64(record),
		Blocks: uint64(blocks), BlockSize: 256, End: uint64(end), Slots: slots,
	}
}

// row tells numbers that look thrown, the same ones each time.
type row uint64

func (r *row) next(n int) int {
	*r = *r*6364136223846793005 + 1442695040888963407
	return int(uint64(*r) >> 33 % uint64(n))
}

func (r *row) from(first, last int) int { return first + r.next(last-first+1) }

// conf is one that may be.
func (r *row) conf() api.Conf {
	c := api.Conf{}
	for _, f := range fields() {
		*f.of(&c) = r.from(f.first, f.last)
	}
	return c
}

// words are n thrown ones.
func (r *row) words(n int) []uint32 {
	var l []uint32
	for range n {
		l = append(l, uint32(r.next(1<<31)*2+r.next(2)))
	}
	return l
}
