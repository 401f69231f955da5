package inst_test

import (
	"slices"
	"strings"
	"testing"

	"postbag/api"
	"postbag/inst"
)

// P2.1: what may be is good, and its word is as its form's row says.
func TestEncodeTellsTheWordOfTheTable(t *testing.T) {
	table := rows(t)
	for _, i := range all(t) {
		if !inst.Good(i) {
			t.Fatalf("%+v is not good", i)
		}
		want := table[i.Op-1].word(t, i)
		if w, e := inst.Encode(i); e != api.OK || w != want {
			t.Fatalf("%+v: %08x and %d, not %08x", i, w, int(e), want)
		}
	}
}

// P2.1: what may not be is not good, and has no word.
func TestEncodeRefusesWhatMayNotBe(t *testing.T) {
	for _, i := range wrong(t) {
		if inst.Good(i) {
			t.Errorf("%+v is good", i)
		}
		if w, e := inst.Encode(i); e != api.ErrInst || w != 0 {
			t.Errorf("%+v: %08x and %d", i, w, int(e))
		}
	}
}

// P2.1, P2.2: words that are written down elsewhere.
func TestWordsOfOrdinaryInstructions(t *testing.T) {
	for _, c := range []struct {
		w uint32
		i api.Inst
	}{
		{0x00000013, api.Inst{Op: api.OpAddi}},
		{0xfff10093, api.Inst{Op: api.OpAddi, Rd: 1, Rs1: 2, Imm: -1}},
		{0x00008067, api.Inst{Op: api.OpJalr, Rs1: 1}},
		{0x000012b7, api.Inst{Op: api.OpLui, Rd: 5, Imm: 4096}},
		{0x80000097, api.Inst{Op: api.OpAuipc, Rd: 1, Imm: -1 << 31}},
		{0x7ffff0b7, api.Inst{Op: api.OpLui, Rd: 1, Imm: 1<<31 - 4096}},
		{0x0000006f, api.Inst{Op: api.OpJal}},
		{0xffdff06f, api.Inst{Op: api.OpJal, Imm: -4}},
		{0x8000006f, api.Inst{Op: api.OpJal, Imm: -1 << 20}},
		{0x7ffff06f, api.Inst{Op: api.OpJal, Imm: 1<<20 - 2}},
		{0x0010006f, api.Inst{Op: api.OpJal, Imm: 1 << 11}},
		{0xfe208ee3, api.Inst{Op: api.OpBeq, Rs1: 1, Rs2: 2, Imm: -4}},
		{0x80000063, api.Inst{Op: api.OpBeq, Imm: -4096}},
		{0x7e000fe3, api.Inst{Op: api.OpBeq, Imm: 4094}},
		{0x000000e3, api.Inst{Op: api.OpBeq, Imm: 1 << 11}},
		{0x00a5b423, api.Inst{Op: api.OpSd, Rs1: 11, Rs2: 10, Imm: 8}},
		{0xfe000fa3, api.Inst{Op: api.OpSb, Imm: -1}},
		{0x00813503, api.Inst{Op: api.OpLd, Rd: 10, Rs1: 2, Imm: 8}},
		{0x02001013, api.Inst{Op: api.OpSlli, Imm: 32}}, // Imm's highest bit stands where f7's lowest one would
		{0x03f29293, api.Inst{Op: api.OpSlli, Rd: 5, Rs1: 5, Imm: 63}},
		{0x43f0d093, api.Inst{Op: api.OpSrai, Rd: 1, Rs1: 1, Imm: 63}},
		{0x41f0d09b, api.Inst{Op: api.OpSraiw, Rd: 1, Rs1: 1, Imm: 31}},
		{0x40c58533, api.Inst{Op: api.OpSub, Rd: 10, Rs1: 11, Rs2: 12}},
		{0x02c5d53b, api.Inst{Op: api.OpDivuw, Rd: 10, Rs1: 11, Rs2: 12}},
		{0x0330000f, api.Inst{Op: api.OpFence, Imm: 0x33}},
		{0x0ff0000f, api.Inst{Op: api.OpFence, Imm: 255}},
		{0x00000073, api.Inst{Op: api.OpEcall}},
		{0x00100073, api.Inst{Op: api.OpEbreak}},
		{0x1605252f, api.Inst{Op: api.OpLrw, Rd: 10, Rs1: 10, Aq: true, Rl: true}},
		{0x1ac5b52f, api.Inst{Op: api.OpScd, Rd: 10, Rs1: 11, Rs2: 12, Rl: true}},
		{0x0e20b0af, api.Inst{Op: api.OpAmoswapd, Rd: 1, Rs1: 1, Rs2: 2, Aq: true, Rl: true}},
		{0xe4c5a52f, api.Inst{Op: api.OpAmomaxuw, Rd: 10, Rs1: 11, Rs2: 12, Aq: true}},
	} {
		if w, e := inst.Encode(c.i); e != api.OK || w != c.w {
			t.Errorf("%+v: %08x and %d, not %08x", c.i, w, int(e), c.w)
		}
		if i, e := inst.Decode(c.w); e != api.OK || i != c.i {
			t.Errorf("%08x: %+v and %d", c.w, i, int(e))
		}
	}
}

// P2.5: Decode of what Encode told is the instruction.
func TestDecodeTellsWhatWasEncoded(t *testing.T) {
	for _, i := range all(t) {
		w, _ := inst.Encode(i)
		if back, e := inst.Decode(w); e != api.OK || back != i {
			t.Fatalf("%+v: %08x is %+v and %d", i, w, back, int(e))
		}
	}
}

// P2.2: words that are no instruction's.
func TestDecodeRefusesOtherWords(t *testing.T) {
	for _, w := range []uint32{
		0x00000000,
		0xffffffff,
		0x00000001, // of two bytes
		0x00002063, // a branch with f3 2
		0x00003063, // and 3
		0x00007003, // a load with f3 7
		0x00004023, // a store with f3 4
		0x00001067, // jalr with f3 1
		0x0000200f, // a fence with f3 2
		0x0000100f, // fence.i
		0x0000008f, // a fence with an Rd
		0x0000800f, // with an Rs1
		0x1000000f, // with a bit above Imm
		0x8330000f, // fence.tso
		0x000000f3, // ecall with an Rd
		0x00008073, // with an Rs1
		0x00200073, // f7 2
		0x10000073, // a bit above it
		0x30001073, // csrrw
		0x10500073, // wfi
		0x04001013, // slli, f7 2
		0x80005013, // srai, another bit
		0x0200101b, // slliw by 32
		0x4200501b, // sraiw by 32
		0x0000201b, // 1b with f3 2
		0x40001033, // sll, f7 20
		0x40004033, // xor, f7 20
		0x04000033, // add, f7 2
		0x0200103b, // 3b with f3 1, f7 1
		0x0000203b, // and f3 2
		0x4000103b, // sllw, f7 20
		0x1010202f, // lr.w with an Rs2
		0x0000002f, // an amo of f3 0
		0x0000102f, // 1
		0x0000402f, // 4
		0x2800202f, // f7 5
		0xf800302f, // f7 1f
		0x00000007, // floats
		0x00000057,
		0x00000047,
	} {
		if i, e := inst.Decode(w); e != api.ErrIllegal || i != (api.Inst{}) {
			t.Errorf("%08x: %+v and %d", w, i, int(e))
		}
	}
}

// known tells the row whose instruction has a word: the one whose own bits the word has, and no bit that no field has.
func known(t *testing.T, table []row, fixed, own []uint32, w uint32) (row, bool) {
	t.Helper()
	for k, r := range table {
		if w&fixed[k] == own[k] {
			return r, true
		}
	}
	return row{}, false
}

// P2.2, P2.6: over all opcodes, f3 and f7: a word is taken just if it is an instruction's, and what is taken, encoded, is the word.
func TestDecodeTakesTheWordsOfInstructionsAlone(t *testing.T) {
	table := rows(t)
	var fixed, own []uint32
	for _, r := range table {
		full := r.with([3]int{31, 31, 31}, -1, true, true)
		none := r.word(t, api.Inst{})
		own = append(own, none)
		fixed = append(fixed, ^(r.word(t, full) &^ none))
	}
	for top := range uint32(1 << 17) {
		for _, rest := range []uint32{0, 1 << 7, 1 << 15, 1 << 20, 1 << 24, 31 << 7, 31<<7 | 31<<15 | 31<<20, 5<<7 | 9<<15 | 18<<20} {
			w := top&0x7f | top>>7&7<<12 | top>>10<<25 | rest
			r, ok := known(t, table, fixed, own, w)
			i, e := inst.Decode(w)
			if !ok {
				if e != api.ErrIllegal || i != (api.Inst{}) {
					t.Fatalf("%08x: %+v and %d", w, i, int(e))
				}
				continue
			}
			if e != api.OK || i.Op != r.op || !inst.Good(i) {
				t.Fatalf("%08x: %+v and %d, not %s", w, i, int(e), r.name)
			}
			if again, e := inst.Encode(i); e != api.OK || again != w || r.word(t, i) != w {
				t.Fatalf("%08x: %+v is %08x", w, i, again)
			}
		}
	}
}

// P2.6: words without a shape of their own.
func TestDecodeThenEncode(t *testing.T) {
	x, taken := uint32(2463534242), 0
	for range 300000 {
		x ^= x << 13
		x ^= x >> 17
		x ^= x << 5
		i, e := inst.Decode(x)
		if e != api.OK {
			continue
		}
		taken++
		if w, e := inst.Encode(i); e != api.OK || w != x {
			t.Fatalf("%08x: %+v is %08x", x, i, w)
		}
	}
	if taken < 1000 {
		t.Errorf("only %d words were taken", taken)
	}
}

// one tells whether a name is among those of a list.
func one(name, list string) bool {
	return slices.Contains(strings.Fields(list), name)
}

// P2.3: which operations load, store, are atomic, and of how many bytes.
func TestWhatOperationsDo(t *testing.T) {
	sizes := map[string]int{"lb": 1, "lbu": 1, "sb": 1, "lh": 2, "lhu": 2, "sh": 2, "lw": 4, "lwu": 4, "sw": 4, "ld": 8, "sd": 8}
	for _, r := range rows(t) {
		atomic := strings.HasSuffix(r.name, ".w") || strings.HasSuffix(r.name, ".d")
		loads := one(r.name, "lb lh lw ld lbu lhu lwu") || atomic && !one(r.name, "sc.w sc.d")
		stores := one(r.name, "sb sh sw sd") || atomic && !one(r.name, "lr.w lr.d")
		size := sizes[r.name]
		if atomic {
			size = map[string]int{".w": 4, ".d": 8}[r.name[len(r.name)-2:]]
		}
		if inst.Loads(r.op) != loads || inst.Stores(r.op) != stores || inst.Atomic(r.op) != atomic || inst.Size(r.op) != size {
			t.Errorf("%s: %v %v %v %d", r.name, inst.Loads(r.op), inst.Stores(r.op), inst.Atomic(r.op), inst.Size(r.op))
		}
	}
	for _, op := range noOperations() {
		if inst.Loads(op) || inst.Stores(op) || inst.Atomic(op) || inst.Size(op) != 0 {
			t.Errorf("%d does something", op)
		}
	}
}

// P2.4: Rs1 and Rs2, in this order, without 0; and Rd.
func TestUsesAndSets(t *testing.T) {
	table := rows(t)
	for _, i := range all(t) {
		var want []int
		if table[i.Op-1].has("rs1") && i.Rs1 != 0 {
			want = append(want, i.Rs1)
		}
		if table[i.Op-1].has("rs2") && i.Rs2 != 0 {
			want = append(want, i.Rs2)
		}
		if got := inst.Uses(i); !slices.Equal(got, want) {
			t.Fatalf("%+v uses %v, not %v", i, got, want)
		}
		if got := inst.Sets(i); got != i.Rd {
			t.Fatalf("%+v sets %d", i, got)
		}
	}
}

// P2.4: at the edges.
func TestUsesAndSetsAtTheirEdges(t *testing.T) {
	for _, c := range []struct {
		i    api.Inst
		uses []int
		sets int
	}{
		{api.Inst{Op: api.OpAdd, Rd: 1, Rs1: 9, Rs2: 4}, []int{9, 4}, 1},
		{api.Inst{Op: api.OpAdd, Rd: 1, Rs1: 4, Rs2: 4}, []int{4, 4}, 1},
		{api.Inst{Op: api.OpAdd, Rs2: 4}, []int{4}, 0},
		{api.Inst{Op: api.OpSub, Rd: 31, Rs1: 31}, []int{31}, 31},
		{api.Inst{Op: api.OpAdd}, nil, 0},
		{api.Inst{Op: api.OpSd, Rs1: 2, Rs2: 3, Imm: 8}, []int{2, 3}, 0},
		{api.Inst{Op: api.OpBeq, Rs1: 3, Rs2: 2}, []int{3, 2}, 0},
		{api.Inst{Op: api.OpJal, Rd: 5}, nil, 5},
		{api.Inst{Op: api.OpLui, Rd: 5, Imm: 4096}, nil, 5},
		{api.Inst{Op: api.OpLd, Rd: 5, Rs1: 6, Imm: 8}, []int{6}, 5},
		{api.Inst{Op: api.OpEcall}, nil, 0},
		{api.Inst{Op: api.OpFence, Imm: 255}, nil, 0},
		{api.Inst{Op: api.OpLrd, Rd: 5, Rs1: 6}, []int{6}, 5},
		{api.Inst{Op: api.OpScd, Rd: 5, Rs1: 6, Rs2: 7}, []int{6, 7}, 5},
	} {
		if got := inst.Uses(c.i); !slices.Equal(got, c.uses) {
			t.Errorf("%+v uses %v, not %v", c.i, got, c.uses)
		}
		if got := inst.Sets(c.i); got != c.sets {
			t.Errorf("%+v sets %d, not %d", c.i, got, c.sets)
		}
	}
}

// P2.4: what may not be reads and writes nothing.
func TestUsesAndSetsOfWhatMayNotBe(t *testing.T) {
	for _, i := range wrong(t) {
		if u := inst.Uses(i); len(u) != 0 {
			t.Errorf("%+v uses %v", i, u)
		}
		if r := inst.Sets(i); r != 0 {
			t.Errorf("%+v sets %d", i, r)
		}
	}
}

// P2.4: what is handed out is nobody else's.
func TestUsesAreNotShared(t *testing.T) {
	i := api.Inst{Op: api.OpAdd, Rd: 1, Rs1: 2, Rs2: 3}
	inst.Uses(i)[0] = 99
	if got := inst.Uses(i); !slices.Equal(got, []int{2, 3}) {
		t.Errorf("%v", got)
	}
}
