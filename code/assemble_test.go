package code_test

import (
	"math"
	"slices"
	"testing"

	"postbag/api"
	"postbag/code"
)

// P19.2: what each kind of item becomes, and where labels stand.
func TestAssembleTellsWordsAndLabels(t *testing.T) {
	for _, c := range []struct {
		l           []api.Item
		base        uint64
		words, tags string
	}{
		{nil, 0, "", ""},
		{joined(label("a")), 8, "", "a@8"},
		{joined(label("")), 0, "", "@0"},
		{joined(jump(0, ""), label("")), 0, "jal x0 4", "@4"},
		{joined(label("a"), label("b"), nop(), label("c")), 400, "addi x0 x0 0", "a@400 b@400 c@404"},
		{joined(label("b"), label("a")), 0, "", "b@0 a@0"},
		{joined(label("é x\x00"), jump(1, "é x\x00")), 0, "jal x1 0", "é x\x00@0"},
		{joined(label("a"), jump(1, "a"), jump(31, "a"), jump(0, "z"), label("z")), 4096, "jal x1 0 / jal x31 -4 / jal x0 4", "a@4096 z@4108"},
		{joined(label("a"), beq("a"), beq("z"), beq("z"), label("z")), 0, "beq x1 x2 0 / beq x1 x2 8 / beq x1 x2 4", "a@0 z@12"},
		{joined(address(6, "z"), label("z")), 0, "lui x6 0 / addi x6 x6 8", "z@8"},
		{joined(address(31, "z"), label("z")), 2036, "lui x31 0 / addi x31 x31 2044", "z@2044"},
		{joined(address(1, "z"), label("z")), 2040, "lui x1 4096 / addi x1 x1 -2048", "z@2048"},
		{joined(address(1, "z"), label("z")), 4088, "lui x1 4096 / addi x1 x1 0", "z@4096"},
		{joined(label("z"), address(1, "z")), 0, "lui x1 0 / addi x1 x1 0", "z@0"},
		{joined(label("z"), address(1, "z")), 1 << 30, "lui x1 1073741824 / addi x1 x1 0", "z@1073741824"},
		{joined(address(1, "z"), label("z")), 1<<30 - 4, "lui x1 1073741824 / addi x1 x1 4", "z@1073741828"},
		{joined(constant(7, 9), constant(8, 1<<32), label("z")), 12, "addi x7 x0 9 / lui x8 1048576 / slli x8 x8 12", "z@24"},
		{joined(constant(7, 2048), label("z"), jump(2, "z")), 0, "lui x7 4096 / addiw x7 x7 -2048 / jal x2 0", "z@8"},
		{joined(single(api.Inst{Op: api.OpBeq, Imm: -4}), single(api.Inst{Op: api.OpJal, Imm: 1<<20 - 2}), single(api.Inst{Op: api.OpEcall})), 0, "beq x0 x0 -4 / jal x0 1048574 / ecall", ""},
	} {
		words, labels := made(t, c.l, c.base)
		if s := text(t, words); s != c.words || placed(labels) != c.tags {
			t.Errorf("%q %q\nnot\n%q %q", s, placed(labels), c.words, c.tags)
		}
	}
}

// P19.2: what a kind does not have counts for nothing: a name, an instruction, a value.
func TestWhatKindsDoNotHave(t *testing.T) {
	all := func(i api.Item, fill api.Inst) api.Item {
		if i.Name == "" {
			i.Name = "nowhere"
		}
		if i.Kind != api.ItemConst {
			i.Value = 77
		}
		rd := i.Inst.Rd
		if i.Kind != api.ItemInst && i.Kind != api.ItemBranch {
			i.Inst = fill
		}
		if i.Kind != api.ItemLabel {
			i.Inst.Rd = rd
		}
		return i
	}
	l := joined(label("a"), nop(), jump(1, "a"), address(2, "a"), constant(3, 5))
	want, _ := made(t, l, 0)
	for _, fill := range []api.Inst{{Op: -1, Rd: 99, Rs1: -5, Imm: 3}, {Op: api.OpAddi, Rs1: 2, Imm: 1 << 40, Aq: true}} {
		var filled []api.Item
		for _, i := range l {
			filled = append(filled, all(i, fill))
		}
		if words, labels := made(t, filled, 0); !slices.Equal(words, want) || placed(labels) != "a@0" {
			t.Errorf("%q, %q", text(t, words), placed(labels))
		}
	}
}

// of is a branch that has an Imm of its own.
func of(imm int, b api.Item) api.Item {
	b.Inst.Imm = imm
	return b
}

// P19.2: a branch whose Imm is not 0 is no item, wherever its label stands, and whatever else there is.
func TestBranchesWithAnImm(t *testing.T) {
	for _, op := range branches() {
		for _, imm := range []int{math.MinInt, -1 << 32, -4098, -4096, -4, -1, 1, 2, 3, 4, 8, 4094, 4095, 4096, 1 << 13, 1 << 32, 1 << 40, math.MaxInt} {
			b := of(imm, branch(op, "z"))
			for what, l := range map[string][]api.Item{
				"one that goes on":     joined(b, label("z")),
				"one that goes back":   joined(label("z"), nop(), b),
				"one far ahead of it":  joined(b, nops(1100), label("z")),
				"one far behind it":    joined(label("z"), nops(1100), b),
				"one between others":   joined(label("z"), branch(op, "z"), b, branch(op, "z")),
				"one behind a bad one": joined(api.Item{}, b, label("z")),
			} {
				refused(t, what, l, 0, api.ErrInst)
			}
		}
	}
}

// P19.2: so, too, if its Imm is just as far as its label.
func TestBranchesWithTheImmOfTheirLabel(t *testing.T) {
	for _, op := range branches() {
		for _, n := range []int{0, 1, 9, 1022, 1023, 1100} {
			forth := joined(of(4*n+4, branch(op, "z")), nops(n), label("z"))
			back := joined(label("z"), nop(), nops(n), of(-4*n-4, branch(op, "z")))
			refused(t, "one that goes on", forth, 0, api.ErrInst)
			refused(t, "one that goes back", back, 0, api.ErrInst)
			forth[0].Inst.Imm, back[len(back)-1].Inst.Imm = 0, 0
			made(t, forth, 0)
			made(t, back, 0)
		}
	}
}

// P19.2: so, too, in thrown items that may be but for it.
func TestBranchesWithAnImmAmongOthers(t *testing.T) {
	r := row(12)
	for range 300 {
		l := r.source(one(&r, 1, 5, 40, 1200), 1+r.next(5))
		made(t, l, 0)
		n := r.next(len(l) + 1)
		l = slices.Insert(l, n, of(int(r.number()|1<<r.next(64)), branch(one(&r, branches()...), "l0")))
		refused(t, "one among others", l, 0, api.ErrInst)
		l[n].Inst.Imm = 0
		made(t, l, 0)
	}
}

// P19.2: the base.
func TestBases(t *testing.T) {
	for _, base := range []uint64{1, 2, 3, 5, 1<<30 + 4, 1<<30 + 1, 1 << 31, 1 << 32, 1 << 62, 1 << 63, math.MaxUint64, math.MaxUint64 - 3, neg(4096)} {
		refused(t, "a base", nil, base, api.ErrArg)
		refused(t, "a base", joined(label("a"), nop()), base, api.ErrArg)
	}
	for _, base := range []uint64{0, 4, 4096, 1<<30 - 4, 1 << 30} {
		if words, labels := made(t, joined(nop(), label("a")), base); len(words) != 1 || labels[0].At != base+4 {
			t.Errorf("base %d: %v", base, labels)
		}
	}
}

// P19.2: names that stand at two labels, or at none.
func TestNames(t *testing.T) {
	for what, l := range map[string][]api.Item{
		"two labels":             joined(label("a"), nop(), label("b"), nop(), label("a")),
		"two at one address":     joined(label("a"), label("a")),
		"two without a name":     joined(label(""), nop(), label("")),
		"a branch to none":       joined(beq("b"), label("a")),
		"a branch to no name":    joined(beq(""), label("a")),
		"a jump to none":         joined(label("a"), jump(1, "b")),
		"a jump to no name":      joined(label("a"), jump(1, "")),
		"an address of none":     joined(label("a"), address(1, "aa")),
		"an address of no name":  joined(label("a"), address(1, "")),
		"an instruction's name":  joined(api.Item{Kind: api.ItemInst, Inst: nop().Inst, Name: "a"}, jump(1, "a")),
		"the name of no kind":    joined(api.Item{Name: "a"}, jump(1, "a")),
		"another letter":         joined(label("a"), jump(1, "A")),
		"a branch's name itself": joined(beq("b"), beq("b")),
	} {
		refused(t, what, l, 0, api.ErrLabel)
	}
}

// P19.2: items that may not be.
func TestItemsThatMayNotBe(t *testing.T) {
	l := []api.Item{
		{}, {Kind: -1}, {Kind: 7}, {Kind: math.MaxInt}, {Kind: math.MinInt, Inst: nop().Inst, Name: "a"},
		{Kind: api.ItemInst}, single(api.Inst{Op: api.OpAddi, Imm: 2048}), single(api.Inst{Op: api.OpBeq, Imm: 1}),
		single(api.Inst{Op: api.OpAddi, Rd: 32}), single(api.Inst{Op: api.OpAddi, Rs2: 1}), single(api.Inst{Op: 88}),
		single(api.Inst{Op: api.OpBeq, Imm: 4096}), single(api.Inst{Op: api.OpLui, Rd: 1, Imm: 1}),
	}
	for _, op := range []int{math.MinInt, -1, 0, api.OpJal, api.OpJalr, api.OpLb, api.OpAddi, api.OpAdd, api.OpEcall, 87, 88, math.MaxInt} {
		l = append(l, api.Item{Kind: api.ItemBranch, Inst: api.Inst{Op: op}, Name: "a"})
	}
	for _, i := range []api.Inst{
		{Op: api.OpBeq, Rs1: 32}, {Op: api.OpBne, Rs1: -1}, {Op: api.OpBlt, Rs2: 32}, {Op: api.OpBge, Rs2: -1},
		{Op: api.OpBltu, Rd: 1}, {Op: api.OpBgeu, Aq: true}, {Op: api.OpBgeu, Rl: true}, {Op: api.OpBeq, Rs1: 32, Imm: 8}, {Op: api.OpBne, Imm: 4},
	} {
		l = append(l, api.Item{Kind: api.ItemBranch, Inst: i, Name: "a"})
	}
	for _, rd := range []int{math.MinInt, -1, 32, 1 << 32, math.MaxInt} {
		l = append(l, jump(rd, "a"), address(rd, "a"), constant(rd, 1))
	}
	l = append(l, address(0, "a"), constant(0, 1))
	for n, i := range l {
		refused(t, "an item", joined(label("a"), i), 0, api.ErrInst)
		refused(t, "an item ahead", joined(i, nop(), label("a")), 0, api.ErrInst)
		if words, _, e := code.Assemble(joined(label("a"), nop(), i)[:2], 0); e != api.OK || len(words) != 1 {
			t.Errorf("%d: an item behind the list's length", n)
		}
	}
}

// P19.2: registers at their ends.
func TestRegistersAtTheirEnds(t *testing.T) {
	l := joined(jump(0, "a"), jump(31, "a"), address(1, "a"), address(31, "a"), constant(1, 1), constant(31, 2), label("a"))
	words, _ := made(t, l, 0)
	want := "jal x0 32 / jal x31 28 / lui x1 0 / addi x1 x1 32 / lui x31 0 / addi x31 x31 32 / addi x1 x0 1 / addi x31 x0 2"
	if s := text(t, words); s != want {
		t.Error(s)
	}
}

// P19.2: of several errors the first one that the chapter names.
func TestOrderOfErrors(t *testing.T) {
	many := nops(api.MaxCode + 1)
	twice := joined(label("b"), label("b"))
	none := joined(jump(1, "nowhere"))
	bad := joined(api.Item{})
	for _, c := range []struct {
		what string
		l    []api.Item
		base uint64
		e    api.Errno
	}{
		{"all", joined(many, bad, twice, none), 2, api.ErrArg},
		{"all but the base", joined(many, bad, twice, none), 0, api.ErrLabel},
		{"a name at two", joined(many, bad, twice), 0, api.ErrLabel},
		{"a name at none", joined(many, bad, none), 0, api.ErrLabel},
		{"an item of no kind", joined(many, bad), 0, api.ErrInst},
		{"too many words", many, 0, api.ErrImage},
		{"a great base", joined(bad, twice), 1 << 31, api.ErrArg},
		{"a bad jump to none", joined(jump(32, "a")), 0, api.ErrLabel},
		{"a bad branch to none", joined(branch(api.OpAdd, "a")), 0, api.ErrLabel},
		{"a branch with an Imm, to none", joined(of(4, beq("a"))), 0, api.ErrLabel},
		{"a branch with an Imm, to two", joined(of(4, beq("b")), twice), 0, api.ErrLabel},
		{"a branch with an Imm, and a base", joined(of(4, beq("a")), label("a")), 2, api.ErrArg},
		{"a branch with an Imm, and too many words", joined(many, of(4, beq("a")), label("a")), 0, api.ErrInst},
		{"a bad address of none", joined(address(0, "a")), 0, api.ErrLabel},
		{"a bad item behind a good one", joined(nop(), bad, label("a")), 0, api.ErrInst},
	} {
		refused(t, c.what, c.l, c.base, c.e)
	}
}
