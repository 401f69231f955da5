package code_test

import (
	"slices"
	"strconv"
	"strings"
	"testing"

	"postbag/api"
	"postbag/code"
	"postbag/inst"
	"postbag/listing"
)

func single(i api.Inst) api.Item { return api.Item{Kind: api.ItemInst, Inst: i} }

func nop() api.Item { return single(api.Inst{Op: api.OpAddi}) }

func label(name string) api.Item { return api.Item{Kind: api.ItemLabel, Name: name} }

// branch is one of x1 and x2.
func branch(op int, name string) api.Item {
	return api.Item{Kind: api.ItemBranch, Inst: api.Inst{Op: op, Rs1: 1, Rs2: 2}, Name: name}
}

func beq(name string) api.Item { return branch(api.OpBeq, name) }

func jump(rd int, name string) api.Item {
	return api.Item{Kind: api.ItemJump, Inst: api.Inst{Rd: rd}, Name: name}
}

func address(rd int, name string) api.Item {
	return api.Item{Kind: api.ItemAddr, Inst: api.Inst{Rd: rd}, Name: name}
}

func constant(rd int, v uint64) api.Item {
	return api.Item{Kind: api.ItemConst, Inst: api.Inst{Rd: rd}, Value: v}
}

// nops are n instructions that do nothing.
func nops(n int) []api.Item { return slices.Repeat([]api.Item{nop()}, n) }

// joined are items, and lists of them, one behind the other.
func joined(parts ...any) []api.Item {
	var l []api.Item
	for _, p := range parts {
		switch x := p.(type) {
		case api.Item:
			l = append(l, x)
		case []api.Item:
			l = append(l, x...)
		}
	}
	return l
}

// branches are the six ones.
func branches() []int {
	return []int{api.OpBeq, api.OpBne, api.OpBlt, api.OpBge, api.OpBltu, api.OpBgeu}
}

// text is the lines of words, with " / " between them.
func text(t *testing.T, words []uint32) string {
	t.Helper()
	var l []api.Inst
	for _, w := range words {
		i, e := inst.Decode(w)
		if e != api.OK {
			t.Fatalf("%08x is no instruction's word", w)
		}
		l = append(l, i)
	}
	return strings.ReplaceAll(strings.TrimSpace(listing.Lines(l)), "\n", " / ")
}

// placed is the text of labels.
func placed(l []api.Label) string {
	var parts []string
	for _, x := range l {
		parts = append(parts, x.Name+"@"+strconv.FormatUint(x.At, 10))
	}
	return strings.Join(parts, " ")
}

// made is what items that may be become.
func made(t *testing.T, l []api.Item, base uint64) ([]uint32, []api.Label) {
	t.Helper()
	words, labels, e := code.Assemble(l, base)
	if e != api.OK {
		t.Fatalf("error %d", int(e))
	}
	return words, labels
}

// refused tells it where items have another error, or something beside it.
func refused(t *testing.T, what string, l []api.Item, base uint64, want api.Errno) {
	t.Helper()
	words, labels, e := code.Assemble(l, base)
	if e != want || len(words)+len(labels) != 0 {
		t.Errorf("%s: error %d, not %d; %d words, %d labels", what, int(e), int(want), len(words), len(labels))
	}
}

// row tells numbers that look thrown, the same ones each time.
type row uint64

func (r *row) next(n int) int {
	*r = *r*6364136223846793005 + 1442695040888963407
	return int(uint64(*r) >> 33 % uint64(n))
}

func one[T any](r *row, l ...T) T { return l[r.next(len(l))] }

// number is one of any length, often next to a power of two.
func (r *row) number() uint64 {
	v := uint64(r.next(1<<31))<<33 ^ uint64(r.next(1<<31))<<2 ^ uint64(r.next(4))
	switch r.next(4) {
	case 0:
		return v >> r.next(64)
	case 1:
		return -(v >> r.next(64))
	case 2:
		return 1<<r.next(64) + uint64(r.next(5)) - 2
	}
	return v &^ (1<<r.next(64) - 1)
}

// item is one of any kind; names are those that it may name.
func (r *row) item(names []string) api.Item {
	switch r.next(9) {
	case 0, 1, 2:
		return branch(one(r, branches()...), one(r, names...))
	case 3:
		return jump(r.next(32), one(r, names...))
	case 4:
		return address(1+r.next(31), one(r, names...))
	case 5:
		return constant(1+r.next(31), r.number())
	}
	return r.unnamed()
}

// unnamed is an item that names nothing.
func (r *row) unnamed() api.Item {
	if r.next(3) == 0 {
		return constant(1+r.next(31), r.number())
	}
	return single(one(r, api.Inst{Op: api.OpAddi}, api.Inst{Op: api.OpEcall}, api.Inst{Op: api.OpBeq, Imm: -4096},
		api.Inst{Op: api.OpJal, Rd: 1, Imm: 1<<20 - 2}, api.Inst{Op: api.OpLrd, Rd: 3, Rs1: 4, Aq: true}))
}

// source is items, with a label among them for each name.
func (r *row) source(n, names int) []api.Item {
	var l []api.Item
	var all []string
	for k := range names {
		all = append(all, "l"+strconv.Itoa(k))
	}
	for range n {
		l = append(l, r.item(all))
	}
	for _, name := range all {
		l = slices.Insert(l, r.next(len(l)+1), label(name))
	}
	return l
}
