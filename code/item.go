package code

import (
	"iter"
	"slices"

	"postbag/api"
)

// insts yields the instructions of an item that stands at an address; to is the address of what it names.
func insts(i api.Item, at, to uint64, long bool) iter.Seq[api.Inst] {
	var l []api.Inst
	far := int(to - at)
	rd := i.Inst.Rd
	switch i.Kind {
	case api.ItemInst:
		l = []api.Inst{i.Inst}
	case api.ItemBranch:
		l = branch(i.Inst, far, long)
	case api.ItemJump:
		l = []api.Inst{jal(rd, far)}
	case api.ItemAddr:
		l = []api.Inst{lui(rd, to), more(api.OpAddi, rd, to)}
	case api.ItemConst:
		return constant(rd, i.Value)
	}
	return slices.Values(l)
}

// branch tells the instructions of a branch to what is so far from it.
func branch(i api.Inst, far int, long bool) []api.Inst {
	if !long {
		i.Imm = far
		return []api.Inst{i}
	}
	i.Op = opposite(i.Op)
	i.Imm = 2 * word
	return []api.Inst{i, jal(0, far-word)}
}

func jal(rd, far int) api.Inst {
	return api.Inst{Op: api.OpJal, Rd: rd, Imm: far}
}

// opposite tells the branch that is taken where another one is not; 0 of what is none.
func opposite(op int) int {
	switch op {
	case api.OpBeq:
		return api.OpBne
	case api.OpBne:
		return api.OpBeq
	case api.OpBlt:
		return api.OpBge
	case api.OpBge:
		return api.OpBlt
	case api.OpBltu:
		return api.OpBgeu
	case api.OpBgeu:
		return api.OpBltu
	}
	return 0
}
