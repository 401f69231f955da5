package code

import (
	"iter"

	"postbag/api"
	"postbag/inst"
)

// draft is items, where the first one stands, and which of them are long branches.
type draft struct {
	items []api.Item
	base  uint64
	long  []bool
}

// wordsOf tells how many words an item becomes, wherever it stands.
func (d draft) wordsOf(n int) int {
	words := 0
	for range insts(d.items[n], 0, 0, d.long[n]) {
		words++
	}
	return words
}

// size tells how many words there are.
func (d draft) size() int {
	words := 0
	for n := range d.items {
		words += d.wordsOf(n)
	}
	return words
}

// places yields the items' places, and their addresses.
func (d draft) places() iter.Seq2[int, uint64] {
	return func(yield func(int, uint64) bool) {
		at := d.base
		for n := range d.items {
			if !yield(n, at) {
				return
			}
			at += word * uint64(d.wordsOf(n))
		}
	}
}

// addresses tells where the labels stand.
func (d draft) addresses() map[string]uint64 {
	stand := make(map[string]uint64)
	for n, at := range d.places() {
		if i := d.items[n]; i.Kind == api.ItemLabel {
			stand[i.Name] = at
		}
	}
	return stand
}

// words tells the words and the labels.
func (d draft) words() ([]uint32, []api.Label, api.Errno) {
	var words []uint32
	var labels []api.Label
	stand := d.addresses()
	for n, at := range d.places() {
		i := d.items[n]
		if i.Kind == api.ItemLabel {
			labels = append(labels, api.Label{Name: i.Name, At: at})
		}
		for x := range insts(i, at, stand[i.Name], d.long[n]) {
			w, e := inst.Encode(x)
			if e != api.OK { // all may be but for a jump that goes too far
				return nil, nil, api.ErrFar
			}
			words = append(words, w)
		}
	}
	return words, labels, api.OK
}
