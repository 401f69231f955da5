package litmus

import "postbag/api"

// What a test may be of.
const (
	mostHarts  = 4
	mostThings = 6  // of a hart
	mostMoving = 10 // loads, stores and swaps, of all harts
	mostStored = 7
	mostFence  = 255
)

// Where a test's words stand.
const (
	words = 4
	base  = 1024 // the first one's address
	size  = 8
)

// address tells the address of the word at a place.
func address(at int) uint64 {
	return base + size*uint64(at)
}

// fair tells whether a hart may do these things.
func fair(l []Do) bool {
	if len(l) > mostThings {
		return false
	}
	var met [words]bool
	for _, d := range l {
		if !d.may() {
			return false
		}
		if d.loads() {
			if met[d.At] {
				return false
			}
			met[d.At] = true
		}
	}
	return true
}

// may tells whether a thing may be done, whatever is done beside it.
func (d Do) may() bool {
	place := d.At >= 0 && d.At < words
	switch d.Kind {
	case Load:
		return place && d == Do{Kind: Load, At: d.At}
	case Store:
		return place && d.V <= mostStored && d == Do{Kind: Store, At: d.At, V: d.V}
	case Swap:
		return place && d.V <= mostStored
	case Fence:
		return d.V <= mostFence && d == Do{Kind: Fence, V: d.V}
	}
	return false
}

// loads tells whether a thing loads.
func (d Do) loads() bool {
	return d.Kind == Load || d.Kind == Swap
}

// The registers of a test's code.
const (
	valueIn   = 5
	addressIn = 6
	loadedIn  = 12 // what the first load of a hart had; those behind it follow
)

// codeOf tells a hart's instructions.
func codeOf(l []Do) []api.Inst {
	var code []api.Inst
	put := func(i ...api.Inst) { code = append(code, i...) }
	rd := loadedIn
	for _, d := range l {
		at := int(address(d.At))
		value := api.Inst{Op: api.OpAddi, Rd: valueIn, Imm: int(d.V)}
		switch d.Kind {
		case Load:
			put(api.Inst{Op: api.OpLd, Rd: rd, Imm: at})
		case Store:
			put(value, api.Inst{Op: api.OpSd, Rs2: valueIn, Imm: at})
		case Swap:
			put(value, api.Inst{Op: api.OpAddi, Rd: addressIn, Imm: at},
				api.Inst{Op: api.OpAmoswapd, Rd: rd, Rs1: addressIn, Rs2: valueIn, Aq: d.Aq, Rl: d.Rl})
		case Fence:
			put(api.Inst{Op: api.OpFence, Imm: int(d.V)})
		}
		if d.loads() {
			rd++
		}
	}
	return append(code, api.Inst{Op: api.OpEbreak})
}
