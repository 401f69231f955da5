package lower

import (
	"postbag/api"
	"postbag/image"
	"postbag/items"
)

// levels have where the tuples stand that lead to a part of a message, the root first. There are as many as can stand in one another in a block: each has two words at least.
var levels = [(image.BlockWords - image.BData) / 2]int{2, 3, 4, 12, 13, 14, 15, 16, 17, 23, 27, 28, 29, 30, 31}

// A walk goes from part to part of a value, in a block or in the heap.
type walk struct {
	*lowering
	inBlock bool
	path    []int // leads to the tuple that the last known level has
	known   int   // how many levels have their tuple
}

// to lays what gives a register the word of the part at a path; false if no message has one so deep.
func (w *walk) to(path []int, rd int) bool {
	if len(path) > len(levels) {
		return false
	}
	if len(path) == 0 {
		w.root(rd)
		return true
	}
	kept := w.shared(path)
	for level := kept; level < len(path); level++ {
		if level == 0 {
			w.root(levels[0])
		} else {
			w.part(levels[level], levels[level-1], path[level-1])
		}
		if w.inBlock {
			w.Both(api.OpAdd, levels[level], levels[level], block)
		}
	}
	w.path, w.known = path, len(path)
	w.part(rd, levels[len(path)-1], path[len(path)-1])
	return true
}

// shared tells how many of the known levels lead to a path, too.
func (w *walk) shared(path []int) int {
	level := 0
	for level < min(w.known, len(path)) && (level == 0 || w.path[level-1] == path[level-1]) {
		level++
	}
	return level
}

// root lays what gives a register the value's own word.
func (w *walk) root(rd int) {
	if w.inBlock {
		w.Load(rd, block, image.BRoot)
	} else {
		w.into(rd, items.First)
	}
}

// part lays what gives a register a part of the tuple that a level has.
func (w *walk) part(rd, level, place int) {
	w.Inst(api.Inst{Op: api.OpLd, Rd: rd, Rs1: level, Imm: items.Offset(place+1) - tagTuple})
}
