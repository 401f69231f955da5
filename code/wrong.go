package code

import (
	"slices"

	"postbag/api"
	"postbag/inst"
)

// wrong tells what is wrong with items and a base, whatever words they become.
func wrong(l []api.Item, base uint64) api.Errno {
	switch {
	case base%word != 0:
		fallthrough
	case base > highest:
		return api.ErrArg
	case !labelled(l):
		return api.ErrLabel
	case slices.ContainsFunc(l, bad):
		return api.ErrInst
	}
	return api.OK
}

// labelled tells whether each name stands at one label at most, and each that an item names at one.
func labelled(l []api.Item) bool {
	labels := make(map[string]int)
	for _, i := range l {
		if i.Kind != api.ItemLabel {
			continue
		}
		labels[i.Name]++
		if labels[i.Name] > 1 {
			return false
		}
	}
	return !slices.ContainsFunc(l, func(i api.Item) bool { return names(i) && labels[i.Name] == 0 })
}

// names tells whether an item is of a kind that names a label.
func names(i api.Item) bool {
	return i.Kind == api.ItemBranch || i.Kind == api.ItemJump || i.Kind == api.ItemAddr
}

// bad tells whether an item may not be.
func bad(i api.Item) bool {
	lowest := 0
	switch i.Kind {
	case api.ItemLabel:
		return false
	case api.ItemBranch:
		if opposite(i.Inst.Op) == 0 || i.Inst.Imm != 0 { // how far it goes is told by its label alone
			return true
		}
		fallthrough
	case api.ItemInst:
		return !inst.Good(i.Inst)
	case api.ItemAddr, api.ItemConst:
		lowest = 1
		fallthrough
	case api.ItemJump:
		return !register(i.Inst.Rd, lowest)
	}
	return true
}

// register tells whether a number is a register's, from the lowest one on that will do.
func register(r, lowest int) bool {
	return r >= lowest && r <= 31
}
