package value

import (
	"slices"

	"postbag/api"
)

// What the lowest two bits of a word tell.
const (
	tagBits  = 2
	tagInt   = 0
	tagTuple = 1
	tagAtom  = 2
	tagPid   = 3
	tags     = 1<<tagBits - 1
)

const (
	wordBytes = 8
	mostParts = 4096 // that Decode meets
)

// Encode tells a value's word, and lays its tuples behind words.
func Encode(v api.Value, words []uint64, base uint64) (uint64, []uint64, api.Errno) {
	if !Good(v) || base%wordBytes != 0 {
		return 0, nil, api.ErrValue
	}
	laid := slices.Clone(words)
	var lay func(v api.Value) uint64
	lay = func(v api.Value) uint64 {
		if v.Kind != api.ValTuple {
			return wordOf(v)
		}
		at := len(laid)
		laid = append(laid, uint64(len(v.Args)))
		// The tuple's own words come first: they are filled when its parts stand behind them.
		laid = append(laid, make([]uint64, len(v.Args))...)
		for i, part := range v.Args {
			w := lay(part)
			laid[at+1+i] = w
		}
		return base + wordBytes*uint64(at) + tagTuple
	}
	w := lay(v)
	return w, slices.Clip(laid), api.OK
}

// wordOf tells the word of what is no tuple.
func wordOf(v api.Value) uint64 {
	w := uint64(v.N) << tagBits
	switch v.Kind {
	case api.ValPid:
		w |= tagPid &^ tagAtom
		fallthrough
	case api.ValAtom:
		w |= tagAtom
	}
	return w
}

// Decode tells the value of a word.
func Decode(w uint64, words []uint64, base uint64) (api.Value, api.Errno) {
	met := 0
	var read func(w uint64, around int) (api.Value, api.Errno)
	read = func(w uint64, around int) (api.Value, api.Errno) {
		met++
		if met > mostParts {
			return api.Value{}, api.ErrRoom
		}
		if w&tags != tagTuple {
			return valueOf(w)
		}
		if around == api.MaxDepth {
			return api.Value{}, api.ErrRoom
		}
		parts, ok := partsAt(w-tagTuple, words, base)
		if !ok {
			return api.Value{}, api.ErrValue
		}
		v := api.Value{Kind: api.ValTuple, Args: make([]api.Value, len(parts))}
		for i, p := range parts {
			part, e := read(p, around+1)
			if e != api.OK {
				return api.Value{}, e
			}
			v.Args[i] = part
		}
		return v, api.OK
	}
	return read(w, 0)
}

// valueOf tells the value of a word that is no tuple's.
func valueOf(w uint64) (api.Value, api.Errno) {
	kind := api.ValAtom
	switch w & tags {
	case tagPid:
		kind = api.ValPid
		fallthrough
	case tagAtom:
		if w>>tagBits > mostPlace {
			return api.Value{}, api.ErrValue
		}
		return api.Value{Kind: kind, N: int(w >> tagBits)}, api.OK
	}
	return api.Value{Kind: api.ValInt, N: int(w) >> tagBits}, api.OK
}

// partsAt tells the words of a tuple's parts; whether there is a tuple at that address.
func partsAt(address uint64, words []uint64, base uint64) ([]uint64, bool) {
	if address%wordBytes != 0 || address < base || (address-base)%wordBytes != 0 {
		return nil, false
	}
	place := (address - base) / wordBytes
	if place >= uint64(len(words)) {
		return nil, false
	}
	parts := words[place+1:]
	if n := words[place]; n < 1 || n > api.MaxTuple || n > uint64(len(parts)) {
		return nil, false
	}
	return parts[:words[place]], true
}
