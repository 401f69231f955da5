package listing_test

import (
	"slices"
	"strings"
	"testing"

	"postbag/api"
	"postbag/listing"
)

// P3.1: the name, and what the form has of Rd, Rs1, Rs2 and Imm, each behind one blank.
func TestTextTellsNameAndOperands(t *testing.T) {
	for _, l := range good() {
		if s := listing.Text(l.i); s != l.text {
			t.Errorf("%+v: %q, not %q", l.i, s, l.text)
		}
	}
}

// ordinary are lines with the instructions that they are of.
var ordinary = []line{
	{api.Inst{Op: api.OpAddi, Rd: 1, Rs1: 2, Imm: -5}, "addi x1 x2 -5"},
	{api.Inst{Op: api.OpSd, Rs1: 1, Rs2: 2, Imm: 8}, "sd x1 x2 8"},
	{api.Inst{Op: api.OpAmoswapd, Rd: 5, Rs1: 6, Rs2: 7, Aq: true, Rl: true}, "amoswap.d.aqrl x5 x6 x7"},
	{api.Inst{Op: api.OpEcall}, "ecall"},
	{api.Inst{Op: api.OpLrw, Rd: 1, Rs1: 2, Aq: true}, "lr.w.aq x1 x2"},
	{api.Inst{Op: api.OpScd, Rd: 1, Rs1: 2, Rs2: 3, Rl: true}, "sc.d.rl x1 x2 x3"},
	{api.Inst{Op: api.OpAmomaxuw, Rd: 31, Rs1: 0, Rs2: 31}, "amomaxu.w x31 x0 x31"},
	{api.Inst{Op: api.OpFence, Imm: 255}, "fence 255"},
	{api.Inst{Op: api.OpLui, Rd: 3, Imm: -4096}, "lui x3 -4096"},
	{api.Inst{Op: api.OpBeq, Rs1: 1, Rs2: 2, Imm: -4}, "beq x1 x2 -4"},
	{api.Inst{Op: api.OpJal, Imm: -1 << 20}, "jal x0 -1048576"},
	{api.Inst{Op: api.OpSrai, Rd: 1, Rs1: 1, Imm: 63}, "srai x1 x1 63"},
}

// P3.1, P3.2: ordinary lines.
func TestOrdinaryLines(t *testing.T) {
	for _, l := range ordinary {
		if s := listing.Text(l.i); s != l.text {
			t.Errorf("%+v: %q, not %q", l.i, s, l.text)
		}
		if i, e := listing.Parse(l.text); i != l.i || e != api.OK {
			t.Errorf("%q: %+v and %d", l.text, i, int(e))
		}
	}
}

// P3.1: what may not be has no text: registers and numbers beyond, fields that the form does not have.
func TestTextOfWhatMayNotBeIsNothing(t *testing.T) {
	wrong := []api.Inst{
		{},
		{Rd: 1, Rs1: 2},
		{Op: api.OpAdd, Imm: 2},
		{Op: api.OpAdd, Aq: true},
		{Op: api.OpAddi, Rs2: 1},
		{Op: api.OpLui, Rs1: 1},
		{Op: api.OpSd, Rd: 1},
		{Op: api.OpBeq, Rd: 1},
		{Op: api.OpFence, Rl: true},
		{Op: api.OpEcall, Rd: 1},
		{Op: api.OpEbreak, Imm: 1},
		{Op: api.OpLrd, Rs2: 1},
		{Op: api.OpAmoaddw, Imm: 2},
	}
	for _, op := range []int{-1 << 63, -1, 88, 89, 1 << 32, 1<<32 + 1, 1<<63 - 1} {
		wrong = append(wrong, api.Inst{Op: op})
	}
	for _, l := range bad() {
		wrong = append(wrong, l.i)
	}
	for _, i := range wrong {
		if s := listing.Text(i); s != "" {
			t.Errorf("%+v: %q", i, s)
		}
	}
}

// P3.2: a line's instruction.
func TestParseTellsTheInstruction(t *testing.T) {
	for _, l := range good() {
		if i, e := listing.Parse(l.text); i != l.i || e != api.OK {
			t.Errorf("%q: %+v and %d, not %+v", l.text, i, int(e), l.i)
		}
	}
}

// noLines are texts of no instruction.
var noLines = []string{
	"", " ", "x", "x1", "0", "foo", "foo x1 x2 x3", ".aq", ".aqrl", "\n", "\x00", "é",
	// names
	"ADD x1 x2 x3", "Add x1 x2 x3", "ad x1 x2 x3", "addd x1 x2 x3", "add, x1 x2 x3", "amoadd x1 x2 x3", "amoadd.q x1 x2 x3", "lr x1 x2", "lr. x1 x2",
	// orders
	"add.aq x1 x2 x3", "add.rl x1 x2 x3", "add.aqrl x1 x2 x3", "ld.aq x1 x2 0", "sd.rl x1 x2 0", "fence.aq 1", "ecall.aqrl", "lui.rl x1 4096",
	"lr.w.rlaq x1 x2", "lr.w.aq.rl x1 x2", "lr.w.rl.aq x1 x2", "lr.w.aq.aq x1 x2", "lr.w.aqrl.aq x1 x2", "lr.w. x1 x2", "lr.w.AQ x1 x2", "lr.waq x1 x2", "lr.aq.w x1 x2", "lr.w .aq x1 x2",
	// operands that lack, that are too many, of the other kind
	"addi", "addi ", "addi x1", "addi x1 x2", "addi x1 x2 ", "addi x1 x2 3 4", "addi x1 x2 x3", "addi 1 2 3", "addi 1 x2 3", "addi x1 3 x2", "add x1 x2 3", "add x1 x2", "add x1 x2 x3 x4", "add x1 x2 x3 0",
	"lr.w x1 x2 x3", "sc.w x1 x2", "ecall 0", "ecall x0", "fence", "fence x1", "fence 1 2", "lui x1", "lui x1 x2 4096", "jal 8", "sd x1 x2", "sd x2 8(x1)", "sd x1 8 x2", "beq x1 x2 x3",
	// registers
	"add x01 x2 x3", "add x1 x00 x3", "add x1 x2 x32", "add x33 x2 x3", "add x-1 x2 x3", "add x-0 x2 x3", "add x+1 x2 x3", "add x x2 x3", "add xx1 x2 x3", "add X1 x2 x3", "add y1 x2 x3", "add a0 x2 x3", "add x1, x2, x3", "add x1. x2 x3", "add x0x1 x2 x3", "add x1_0 x2 x3", "add x18446744073709551617 x2 x3", "add x4294967297 x2 x3",
	// numbers
	"addi x1 x2 -0", "addi x1 x2 +0", "addi x1 x2 +5", "addi x1 x2 00", "addi x1 x2 05", "addi x1 x2 -05", "addi x1 x2 --5", "addi x1 x2 5-", "addi x1 x2 - 5", "addi x1 x2 -", "addi x1 x2 0x5", "addi x1 x2 x5", "addi x1 x2 5.0", "addi x1 x2 1e1", "addi x1 x2 1_0", "addi x1 x2 5a", "addi x1 x2 ٣",
	"addi x1 x2 2048", "addi x1 x2 -2049", "addi x1 x2 18446744073709551617", "addi x1 x2 -18446744073709551615", "addi x1 x2 9223372036854775808", "addi x1 x2 99999999999999999999999999999999", "addi x1 x2 00000000000000000000000000000000000001",
	"lui x1 1", "lui x1 2", "lui x1 2147483648", "lui x1 -2147487744", "auipc x1 4095", "jal x1 1", "jal x1 1048576", "beq x1 x2 3", "beq x1 x2 4096", "slli x1 x2 64", "slli x1 x2 -1", "slliw x1 x2 32", "fence 256", "fence -1",
	// blanks, and what ends a line
	" addi x1 x2 3", "addi  x1 x2 3", "addi x1  x2 3", "addi x1 x2  3", "addi x1 x2 3 ", "addi\tx1 x2 3", "addi x1 x2\t3", "addi x1 x2 3\t", "addi x1 x2 3\n", "addi x1 x2 3\r", "\naddi x1 x2 3", "addi x1\nx2 3", "addi x1 x2 3\x00", "addi\u00a0x1 x2 3", "ecall ", " ecall", "ecall\n", "ecall\necall", "addix1 x2 3", "addi x1x2 3",
}

// P3.2: what is no instruction's text is none.
func TestParseRefusesOtherTexts(t *testing.T) {
	texts := slices.Clone(noLines)
	for _, l := range bad() {
		texts = append(texts, l.text)
	}
	for _, l := range ordinary {
		texts = append(texts, l.text+" ", " "+l.text, l.text+"\n", l.text+" x1", l.text+" 0", strings.ToUpper(l.text), strings.ReplaceAll(l.text, " ", "  ")+" ")
	}
	for _, s := range texts {
		if i, e := listing.Parse(s); i != (api.Inst{}) || e != api.ErrText {
			t.Errorf("%q: %+v and %d", s, i, int(e))
		}
	}
}

// P3.2: whatever is done to one byte of a line, what is taken has just that text.
func TestParseTakesNothingButTexts(t *testing.T) {
	for _, l := range ordinary {
		for k := range len(l.text) + 1 {
			for _, c := range " x.-+0129aqrlwdi\n" {
				altered := []string{l.text[:k] + string(c) + l.text[k:]}
				if k < len(l.text) {
					altered = append(altered, l.text[:k]+l.text[k+1:], l.text[:k]+string(c)+l.text[k+1:])
				}
				for _, s := range altered {
					if i, e := listing.Parse(s); e == api.OK && listing.Text(i) != s || e != api.OK && (e != api.ErrText || i != api.Inst{}) {
						t.Errorf("%q: %+v and %d", s, i, int(e))
					}
				}
			}
		}
	}
}

// P3.3: each text with a line feed behind it.
func TestLinesEndEachText(t *testing.T) {
	for _, c := range []struct {
		l    []api.Inst
		want string
	}{
		{nil, ""},
		{[]api.Inst{}, ""},
		{[]api.Inst{{Op: api.OpEcall}}, "ecall\n"},
		{[]api.Inst{{Op: api.OpEcall}, {Op: api.OpAdd, Rd: 1, Rs1: 2, Rs2: 3}, {Op: api.OpEcall}}, "ecall\nadd x1 x2 x3\necall\n"},
		{[]api.Inst{{}}, "\n"}, // what may not be has nothing for its text
		{[]api.Inst{{Op: api.OpEcall}, {Op: 88}, {Op: api.OpEbreak}}, "ecall\n\nebreak\n"},
	} {
		if s := listing.Lines(c.l); s != c.want {
			t.Errorf("%v: %q, not %q", c.l, s, c.want)
		}
	}
}

// P3.3: lines are read up to the last one's line feed.
func TestReadTellsTheInstructions(t *testing.T) {
	ecall, add := api.Inst{Op: api.OpEcall}, api.Inst{Op: api.OpAdd, Rd: 1, Rs1: 2, Rs2: 3}
	for _, c := range []struct {
		s    string
		want []api.Inst
	}{
		{"", nil},
		{"ecall\n", []api.Inst{ecall}},
		{"add x1 x2 x3\necall\nadd x1 x2 x3\n", []api.Inst{add, ecall, add}},
	} {
		if l, n, e := listing.Read(c.s); !slices.Equal(l, c.want) || n != 0 || e != api.OK {
			t.Errorf("%q: %v, %d and %d", c.s, l, n, int(e))
		}
	}
}

// P3.3: the first line that is no instruction's text, or that no line feed ends.
func TestReadTellsTheFirstWrongLine(t *testing.T) {
	for _, c := range []struct {
		s    string
		want int
	}{
		{"\n", 1},
		{" ", 1},
		{"foo", 1},
		{"foo\n", 1},
		{"ecall", 1},
		{"ecall\r\n", 1},
		{"\necall\n", 1},
		{"ecall ebreak\n", 1},
		{"ecall\nfoo\n", 2},
		{"ecall\n\n", 2},
		{"ecall\n\necall\n", 2},
		{"ecall\necall", 2},
		{"ecall\nfoo", 2},
		{"ecall\n ", 2},
		{"foo\necall", 1},
		{"ecall\nfoo\nbar\necall", 2},
		{"ecall\necall\nadd x1 x2 x32\necall\n", 3},
		{strings.Repeat("ecall\n", 1000) + "ecal\n" + strings.Repeat("ecall\n", 10), 1001},
		{strings.Repeat("ecall\n", 1000) + "ecall", 1001},
	} {
		if l, n, e := listing.Read(c.s); len(l) != 0 || n != c.want || e != api.ErrText {
			t.Errorf("%.40q: %v, %d and %d, not %d", c.s, l, n, int(e), c.want)
		}
	}
}

// P3.4: Parse leads back from Text, Read from Lines.
func TestTextsLeadBack(t *testing.T) {
	var l []api.Inst
	for _, g := range good() {
		l = append(l, g.i)
		if i, e := listing.Parse(listing.Text(g.i)); i != g.i || e != api.OK {
			t.Errorf("%+v: %+v and %d", g.i, i, int(e))
		}
	}
	back, n, e := listing.Read(listing.Lines(l))
	if !slices.Equal(back, l) || n != 0 || e != api.OK {
		t.Errorf("%d instructions of %d, line %d, error %d", len(back), len(l), n, int(e))
	}
}

// P3.3: what is handed in is not changed, and what is answered is new each time.
func TestListsAreLeftAlone(t *testing.T) {
	l := []api.Inst{{Op: api.OpEcall}, {Op: api.OpEbreak}}
	listing.Lines(l[:1])
	if l[0].Op != api.OpEcall || l[1].Op != api.OpEbreak {
		t.Errorf("%v", l)
	}
	first, _, _ := listing.Read("ecall\n")
	first[0].Op = api.OpEbreak
	if second, _, _ := listing.Read("ecall\n"); second[0].Op != api.OpEcall {
		t.Errorf("%v", second)
	}
}
