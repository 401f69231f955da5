package code_test

import (
	"testing"

	"postbag/api"
	"postbag/inst"
)

// plainConst tells plainly what Const is to tell.
func plainConst(rd int, v uint64) []api.Inst {
	whole := int64(v)
	if whole >= -2048 && whole <= 2047 {
		return []api.Inst{{Op: api.OpAddi, Rd: rd, Imm: int(whole)}}
	}
	lo := int64(v<<52) >> 52
	rest := int64(v - uint64(lo))
	op, l := api.OpAddiw, []api.Inst{{Op: api.OpLui, Rd: rd, Imm: int(int32(rest))}}
	if whole < -1<<31 || whole > 1<<31-1 {
		op, l = api.OpAddi, append(plainConst(rd, uint64(rest>>12)), api.Inst{Op: api.OpSlli, Rd: rd, Rs1: rd, Imm: 12})
	}
	if lo != 0 {
		l = append(l, api.Inst{Op: op, Rd: rd, Rs1: rd, Imm: int(lo)})
	}
	return l
}

// plainly is items, and those of them that are long.
type plainly struct {
	items []api.Item
	long  map[int]bool
}

// stand tells how many bytes stand ahead of each item, and ahead of each label.
func (p plainly) stand() ([]int, map[string]int) {
	var at []int
	to := map[string]int{}
	bytes := 0
	for n, i := range p.items {
		at = append(at, bytes)
		switch i.Kind {
		case api.ItemLabel:
			to[i.Name] = bytes
		case api.ItemInst, api.ItemJump, api.ItemBranch:
			bytes += 4
		case api.ItemAddr:
			bytes += 8
		case api.ItemConst:
			bytes += 4 * len(plainConst(1, i.Value))
		}
		if p.long[n] {
			bytes += 4
		}
	}
	return at, to
}

// lengthen has all branches be long, at once, that are out of reach; it tells how many there were.
func (p plainly) lengthen() int {
	n := 0
	at, to := p.stand()
	for k, i := range p.items {
		if far := to[i.Name] - at[k]; i.Kind == api.ItemBranch && !p.long[k] && (far < -4096 || far > 4095) {
			p.long[k] = true
			n++
		}
	}
	return n
}

// insts are an item's instructions, at being where it stands, to where its label does.
func (p plainly) insts(n, at, to int) []api.Inst {
	i, rd := p.items[n], p.items[n].Inst.Rd
	switch far := to - at; i.Kind {
	case api.ItemInst:
		return []api.Inst{i.Inst}
	case api.ItemBranch:
		if !p.long[n] {
			return []api.Inst{{Op: i.Inst.Op, Rs1: i.Inst.Rs1, Rs2: i.Inst.Rs2, Imm: far}}
		}
		other := map[int]int{5: 6, 6: 5, 7: 8, 8: 7, 9: 10, 10: 9}[i.Inst.Op]
		return []api.Inst{{Op: other, Rs1: i.Inst.Rs1, Rs2: i.Inst.Rs2, Imm: 8}, {Op: api.OpJal, Imm: far - 4}}
	case api.ItemJump:
		return []api.Inst{{Op: api.OpJal, Rd: rd, Imm: far}}
	case api.ItemAddr:
		lo := (to+2048)%4096 - 2048
		return []api.Inst{{Op: api.OpLui, Rd: rd, Imm: to - lo}, {Op: api.OpAddi, Rd: rd, Rs1: rd, Imm: lo}}
	case api.ItemConst:
		return plainConst(rd, i.Value)
	}
	return nil
}

// plainAssemble tells plainly what Assemble is to tell of items that may be, and how often branches became long.
func plainAssemble(t *testing.T, l []api.Item, base uint64) ([]uint32, []api.Label, int) {
	t.Helper()
	p := plainly{l, map[int]bool{}}
	times := 0
	for p.lengthen() > 0 {
		times++
	}
	var words []uint32
	var labels []api.Label
	at, to := p.stand()
	for n, i := range l {
		from := int(base) + at[n]
		if i.Kind == api.ItemLabel {
			labels = append(labels, api.Label{Name: i.Name, At: uint64(from)})
		}
		for _, x := range p.insts(n, from, int(base)+to[i.Name]) {
			w, e := inst.Encode(x)
			if e != api.OK {
				t.Fatalf("%+v may not be", x)
			}
			words = append(words, w)
		}
	}
	return words, labels, times
}
