package alu_test

import (
	"slices"
	"testing"

	"postbag/alu"
	"postbag/api"
)

const (
	least  = 1 << 63             // -2^63
	all    = ^uint64(0)          // -1
	leastW = 0xffffffff_80000000 // -2^31
)

// immediates: the operations of Value that have Imm for c, and those of them that shift with how far they go.
var immediates = map[int]int{
	api.OpAddi: 0, api.OpSlti: 0, api.OpSltiu: 0, api.OpXori: 0, api.OpOri: 0, api.OpAndi: 0, api.OpAddiw: 0,
	api.OpSlli: 64, api.OpSrli: 64, api.OpSrai: 64, api.OpSlliw: 32, api.OpSrliw: 32, api.OpSraiw: 32,
}

// imms tells numbers that may be the Imm of an operation.
func imms(op int) []int {
	if n := immediates[op]; n != 0 {
		return []int{0, 1, 7, n/2 - 1, n / 2, n - 1}
	}
	return []int{-2048, -2047, -64, -8, -1, 0, 1, 5, 31, 32, 63, 64, 2047}
}

// P4.1: each operation, with numbers and Imms at which it turns.
func TestValueOfEdges(t *testing.T) {
	for _, l := range laws {
		for _, op := range l.ops {
			for _, a := range edges {
				if _, ok := immediates[op]; ok {
					for _, imm := range imms(op) {
						i := api.Inst{Op: op, Rd: 1, Rs1: 2, Imm: imm}
						valueIs(t, i, a, 0x5a5a, l.repeated(a, uint64(imm)))
					}
					continue
				}
				for _, b := range edges {
					valueIs(t, api.Inst{Op: op, Rd: 1, Rs1: 2, Rs2: 3}, a, b, l.repeated(a, b))
				}
			}
		}
	}
}

func valueIs(t *testing.T, i api.Inst, a, b, want uint64) {
	t.Helper()
	if v, e := alu.Value(i, 0x1234, a, b); v != want || e != api.OK {
		t.Errorf("op %d, Imm %d of %x and %x: %x and %d, not %x", i.Op, i.Imm, a, b, v, int(e), want)
	}
}

// P4.1: values that are written down.
func TestValueOfOrdinaryNumbers(t *testing.T) {
	for _, c := range []struct {
		op, imm    int
		a, b, want uint64
	}{
		{api.OpAdd, 0, all, 2, 1},
		{api.OpAddi, -1, 0, 9, all},
		{api.OpSub, 0, 1, 2, all},
		{api.OpSll, 0, 1, 0, 1},
		{api.OpSll, 0, 1, 31, 1 << 31},
		{api.OpSll, 0, 1, 32, 1 << 32},
		{api.OpSll, 0, 1, 63, least},
		{api.OpSll, 0, 1, 64, 1},
		{api.OpSll, 0, 1, 65, 2},
		{api.OpSlli, 63, 3, 9, least},
		{api.OpSrl, 0, all, 63, 1},
		{api.OpSrli, 32, all, 9, 1<<32 - 1},
		{api.OpSra, 0, least, 63, all},
		{api.OpSra, 0, 1<<63 - 1, 63, 0},
		{api.OpSrai, 1, minus(8), 9, minus(4)},
		{api.OpSlt, 0, all, 0, 1},
		{api.OpSlt, 0, 0, all, 0},
		{api.OpSlt, 0, 5, 5, 0},
		{api.OpSlti, -1, least, 9, 1},
		{api.OpSltu, 0, all, 0, 0},
		{api.OpSltu, 0, 0, all, 1},
		{api.OpSltiu, -1, 5, 0, 1}, // Imm has its sign first, and is without one then
		{api.OpXori, -1, 5, 9, ^uint64(5)},
		{api.OpOri, 12, 10, 9, 14},
		{api.OpAndi, 12, 10, 9, 8},
		{api.OpAddiw, 1, 0x7fffffff, 9, leastW},
		{api.OpAddiw, 0, 0x1_80000000, 9, leastW},
		{api.OpAddw, 0, 0xffffffff, 1, 0},
		{api.OpSubw, 0, 0, 1, all},
		{api.OpSllw, 0, 1, 31, leastW},
		{api.OpSllw, 0, 1, 32, 1},
		{api.OpSllw, 0, 1, 63, leastW},
		{api.OpSlliw, 31, 1, 9, leastW},
		{api.OpSrlw, 0, leastW, 0, leastW},
		{api.OpSrlw, 0, leastW, 31, 1},
		{api.OpSrlw, 0, 0x7_00000000, 1, 0},
		{api.OpSrliw, 0, 0x80000000, 9, leastW},
		{api.OpSraw, 0, 0x80000000, 31, all},
		{api.OpSraiw, 31, 0xffffffff_7fffffff, 9, 0},
		{api.OpMul, 0, all, 5, minus(5)},
		{api.OpMul, 0, 1 << 32, 1 << 32, 0},
		{api.OpMulh, 0, all, 5, all},
		{api.OpMulh, 0, least, least, 1 << 62},
		{api.OpMulhsu, 0, all, all, all},
		{api.OpMulhsu, 0, 5, all, 4},
		{api.OpMulhu, 0, all, all, all - 1},
		{api.OpDiv, 0, 7, 0, all},
		{api.OpDiv, 0, minus(7), 2, minus(3)},
		{api.OpDiv, 0, least, all, least},
		{api.OpDivu, 0, 7, 0, all},
		{api.OpDivu, 0, least, all, 0},
		{api.OpRem, 0, 7, 0, 7},
		{api.OpRem, 0, minus(7), 2, all},
		{api.OpRem, 0, least, all, 0},
		{api.OpRemu, 0, 7, 0, 7},
		{api.OpRemu, 0, least, all, least},
		{api.OpMulw, 0, 0x10000, 0x8000, leastW},
		{api.OpDivw, 0, 0x80000000, all, leastW},
		{api.OpDivw, 0, 7, 1 << 32, all},
		{api.OpDivuw, 0, all, 2, 0x7fffffff},
		{api.OpDivuw, 0, all, 1, all},
		{api.OpDivuw, 0, 7, 1 << 32, all},
		{api.OpRemw, 0, 0x80000000, all, 0},
		{api.OpRemw, 0, 0xfffffff9, 2, all},
		{api.OpRemw, 0, 0x80000000, 0, leastW},
		{api.OpRemuw, 0, 7, 1 << 32, 7},
		{api.OpRemuw, 0, 0x80000000, 0, leastW},
	} {
		i := api.Inst{Op: c.op, Rd: 1, Rs1: 2, Imm: c.imm}
		if _, ok := immediates[c.op]; !ok {
			i.Rs2 = 3
		}
		valueIs(t, i, c.a, c.b, c.want)
	}
}

// P4.1: what hangs on Imm and pc alone.
func TestValueOfPlaces(t *testing.T) {
	for _, c := range []struct {
		op, imm  int
		pc, want uint64
	}{
		{api.OpLui, 4096, 40, 4096},
		{api.OpLui, -4096, 40, minus(4096)},
		{api.OpLui, -1 << 31, 40, leastW},
		{api.OpAuipc, 4096, 40, 4136},
		{api.OpAuipc, -4096, 40, minus(4056)},
		{api.OpAuipc, 4096, minus(4), 4092},
		{api.OpJal, 8, 40, 44},
		{api.OpJal, -8, minus(4), 0},
		{api.OpJalr, 8, 40, 44},
		{api.OpJalr, -3, all, 3},
	} {
		i := api.Inst{Op: c.op, Rd: 1, Imm: c.imm}
		if v, e := alu.Value(i, c.pc, 77, 99); v != c.want || e != api.OK {
			t.Errorf("op %d, Imm %d at %x: %x and %d, not %x", c.op, c.imm, c.pc, v, int(e), c.want)
		}
	}
}

// P4.1: operations that reckon nothing for Rd, and what may not be.
func TestValueRefusesOthers(t *testing.T) {
	reckoning := []int{api.OpLui, api.OpAuipc, api.OpJal, api.OpJalr}
	for _, l := range laws {
		reckoning = append(reckoning, l.ops...)
	}
	for op := -2; op < 100; op++ {
		want := api.ErrExec
		if op < api.OpLui || op > api.OpAmomaxud {
			want = api.ErrInst
		}
		if slices.Contains(reckoning, op) {
			want = api.OK
		}
		if v, e := alu.Value(api.Inst{Op: op}, 0, 1, 1); e != want || e != api.OK && v != 0 {
			t.Errorf("op %d: %x and %d, not %d", op, v, int(e), int(want))
		}
	}
	for _, i := range []api.Inst{
		{Op: api.OpAdd, Rd: 32}, {Op: api.OpAdd, Rs1: -1}, {Op: api.OpAdd, Imm: 1}, {Op: api.OpAdd, Aq: true},
		{Op: api.OpAddi, Imm: 2048}, {Op: api.OpAddi, Rs2: 1}, {Op: api.OpSlli, Imm: 64}, {Op: api.OpSlliw, Imm: 32}, {Op: api.OpSraiw, Imm: -1},
		{Op: api.OpLui, Imm: 1}, {Op: api.OpAuipc, Rs1: 1}, {Op: api.OpJal, Imm: 1}, {Op: api.OpJalr, Imm: -2049}, {Op: api.OpMulw, Rs2: 32},
		{Op: api.OpBeq, Imm: 1}, {Op: api.OpLd, Imm: 2048}, {Op: api.OpEcall, Rd: 1}, {Op: -1 << 63}, {Op: 1<<63 - 1}, // ErrInst goes ahead of ErrExec
	} {
		if v, e := alu.Value(i, 40, 1, 1); v != 0 || e != api.ErrInst {
			t.Errorf("%+v: %x and %d", i, v, int(e))
		}
	}
}

// condition is when a branch is taken: numbers that are held against each other, signed or not.
type condition struct {
	op     int
	signed bool
	holds  func(order int) bool
}

var conditions = []condition{
	{api.OpBeq, false, func(order int) bool { return order == 0 }},
	{api.OpBne, false, func(order int) bool { return order != 0 }},
	{api.OpBlt, true, func(order int) bool { return order < 0 }},
	{api.OpBge, true, func(order int) bool { return order >= 0 }},
	{api.OpBltu, false, func(order int) bool { return order < 0 }},
	{api.OpBgeu, false, func(order int) bool { return order >= 0 }},
}

// P4.2: a branch is taken just if its condition holds.
func TestTakenAsTheConditionHolds(t *testing.T) {
	for _, c := range conditions {
		for _, a := range edges {
			for _, b := range edges {
				want := c.holds(whole(a, 64, c.signed).Cmp(whole(b, 64, c.signed)))
				if alu.Taken(api.Inst{Op: c.op, Rs1: 1, Rs2: 2, Imm: -8}, a, b) != want {
					t.Errorf("op %d of %x and %x: not %v", c.op, a, b, want)
				}
			}
		}
	}
}

// P4.2: no other operation is taken, and no branch that may not be.
func TestTakenOnlyOfBranches(t *testing.T) {
	for op := -2; op < 100; op++ {
		if op >= api.OpBeq && op <= api.OpBgeu {
			continue
		}
		for _, b := range []uint64{0, 1, all} {
			if alu.Taken(api.Inst{Op: op}, 1, b) {
				t.Errorf("op %d is taken", op)
			}
		}
	}
	for op := api.OpBeq; op <= api.OpBgeu; op++ {
		for _, i := range []api.Inst{{Op: op, Rd: 1}, {Op: op, Rs1: 32}, {Op: op, Rs2: -1}, {Op: op, Imm: 1}, {Op: op, Imm: 4096}, {Op: op, Aq: true}, {Op: op, Rl: true}} {
			for _, b := range []uint64{0, 1, all} {
				if alu.Taken(i, 1, b) {
					t.Errorf("%+v is taken", i)
				}
			}
		}
	}
}

// P4.2: where an instruction goes.
func TestTarget(t *testing.T) {
	for op := api.OpBeq; op <= api.OpBgeu; op++ {
		targetIs(t, api.Inst{Op: op, Rs1: 1, Rs2: 2, Imm: -8}, 100, 7, 92)
		targetIs(t, api.Inst{Op: op, Imm: 4094}, 100, 7, 4194)
		targetIs(t, api.Inst{Op: op, Imm: -4096}, 0, 7, minus(4096))
	}
	targetIs(t, api.Inst{Op: api.OpJal, Rd: 1, Imm: 2048}, 100, 7, 2148)
	targetIs(t, api.Inst{Op: api.OpJal, Imm: 6}, minus(2), 7, 4)
	targetIs(t, api.Inst{Op: api.OpJal, Imm: 0}, 3, 7, 3)
	targetIs(t, api.Inst{Op: api.OpJalr, Imm: 0}, 100, 9, 8)
	targetIs(t, api.Inst{Op: api.OpJalr, Imm: 3}, 100, 4, 6)
	targetIs(t, api.Inst{Op: api.OpJalr, Imm: -1}, 100, 8, 6)
	targetIs(t, api.Inst{Op: api.OpJalr, Imm: -1}, 100, 0, all-1)
	targetIs(t, api.Inst{Op: api.OpJalr, Imm: 1}, 100, all, 0)
	for op := -2; op < 100; op++ {
		if op >= api.OpJal && op <= api.OpBgeu {
			continue
		}
		targetIs(t, api.Inst{Op: op}, 8, 77, 12)
		targetIs(t, api.Inst{Op: op}, minus(4), 77, 0)
		targetIs(t, api.Inst{Op: op}, 1, 77, 5)
	}
	targetIs(t, api.Inst{Op: api.OpLui, Imm: 4096}, 8, 77, 12)
	targetIs(t, api.Inst{Op: api.OpLd, Imm: 16}, 8, 77, 12)
}

func targetIs(t *testing.T, i api.Inst, pc, a, want uint64) {
	t.Helper()
	if got := alu.Target(i, pc, a); got != want {
		t.Errorf("%+v at %x with %x: %x, not %x", i, pc, a, got, want)
	}
}

// P4.2: where an instruction loads or stores.
func TestAddress(t *testing.T) {
	for op := -2; op < 100; op++ {
		plain, atomic := op >= api.OpLb && op <= api.OpSd, op >= api.OpLrw && op <= api.OpAmomaxud
		for _, a := range edges {
			want := uint64(0)
			if plain || atomic {
				want = a
			}
			if got := alu.Address(api.Inst{Op: op}, a); got != want {
				t.Errorf("op %d of %x: %x, not %x", op, a, got, want)
			}
			if got := alu.Address(api.Inst{Op: op, Imm: -8}, a); plain && got != a-8 {
				t.Errorf("op %d of %x less 8: %x", op, a, got)
			}
			if got := alu.Address(api.Inst{Op: op, Imm: 2047}, a); plain && got != a+2047 {
				t.Errorf("op %d of %x and 2047: %x", op, a, got)
			}
		}
	}
	if got := alu.Address(api.Inst{Op: api.OpAddi, Imm: 8}, 16); got != 0 {
		t.Errorf("addi: %x", got)
	}
}

// loading is how many of the lowest bits an operation loads, and whether the highest one is repeated.
type loading struct {
	width  uint
	signed bool
}

var loadings = map[int]loading{
	api.OpLb: {8, true}, api.OpLh: {16, true}, api.OpLw: {32, true}, api.OpLd: {64, true}, api.OpLbu: {8, false}, api.OpLhu: {16, false}, api.OpLwu: {32, false},
	api.OpLrw: {32, true}, api.OpAmoswapw: {32, true}, api.OpAmoaddw: {32, true}, api.OpAmoxorw: {32, true}, api.OpAmoandw: {32, true}, api.OpAmoorw: {32, true}, api.OpAmominw: {32, true}, api.OpAmomaxw: {32, true}, api.OpAmominuw: {32, true}, api.OpAmomaxuw: {32, true},
	api.OpLrd: {64, true}, api.OpAmoswapd: {64, true}, api.OpAmoaddd: {64, true}, api.OpAmoxord: {64, true}, api.OpAmoandd: {64, true}, api.OpAmoord: {64, true}, api.OpAmomind: {64, true}, api.OpAmomaxd: {64, true}, api.OpAmominud: {64, true}, api.OpAmomaxud: {64, true},
}

// P4.3: what a load gives; 0 of all that loads nothing, an sc among them.
func TestLoaded(t *testing.T) {
	raws := append([]uint64{0x7f, 0x80, 0xff, 0x100, 0x180, 0x7fff, 0x8000, 0xffff, 0x18000}, edges...)
	for op := -2; op < 100; op++ {
		for _, raw := range raws {
			want := uint64(0)
			if l, ok := loadings[op]; ok {
				want = word(whole(raw, l.width, l.signed))
			}
			if got := alu.Loaded(op, raw); got != want {
				t.Errorf("op %d of %x: %x, not %x", op, raw, got, want)
			}
		}
	}
}

// P4.3: loads that are written down.
func TestLoadedOfOrdinaryBytes(t *testing.T) {
	for _, c := range []struct {
		op        int
		raw, want uint64
	}{
		{api.OpLb, 0x180, minus(0x80)},
		{api.OpLb, 0x17f, 0x7f},
		{api.OpLbu, 0x180, 0x80},
		{api.OpLh, 0x18000, minus(0x8000)},
		{api.OpLhu, 0x18000, 0x8000},
		{api.OpLw, 0x1_80000000, leastW},
		{api.OpLwu, 0x1_80000000, 0x80000000},
		{api.OpLd, all, all},
		{api.OpLrw, 0x1_80000000, leastW},
		{api.OpLrd, 0x1_80000000, 0x1_80000000},
		{api.OpAmomaxuw, 0xffffffff, all}, // without a sign it compares, not loads
		{api.OpAmoswapd, 0xffffffff, 0xffffffff},
		{api.OpScw, all, 0},
		{api.OpScd, all, 0},
		{api.OpSd, all, 0},
		{api.OpAddi, all, 0},
	} {
		if got := alu.Loaded(c.op, c.raw); got != c.want {
			t.Errorf("op %d of %x: %x, not %x", c.op, c.raw, got, c.want)
		}
	}
}

// P4.3: what is stored, and 0 above; 0 of all that stores nothing, an lr among them.
func TestStored(t *testing.T) {
	stores := map[int]law{}
	for _, l := range storeLaws {
		for _, op := range l.ops {
			stores[op] = l
		}
	}
	for op := -2; op < 100; op++ {
		l, ok := stores[op]
		for _, old := range edges {
			for _, b := range edges {
				want := uint64(0)
				if ok {
					want = l.lowest(old, b)
				}
				if got := alu.Stored(op, old, b); got != want {
					t.Errorf("op %d of %x and %x: %x, not %x", op, old, b, got, want)
				}
			}
		}
	}
}

// P4.3: stores that are written down.
func TestStoredOfOrdinaryNumbers(t *testing.T) {
	for _, c := range []struct {
		op           int
		old, b, want uint64
	}{
		{api.OpSb, 9, 0x1ff, 0xff},
		{api.OpSh, 9, 0x1ffff, 0xffff},
		{api.OpSw, 9, all, 0xffffffff},
		{api.OpSd, 9, all, all},
		{api.OpScw, 9, all, 0xffffffff},
		{api.OpScd, 9, 7, 7},
		{api.OpAmoswapw, 9, 0x7_00000007, 7},
		{api.OpAmoswapd, 9, 0x7_00000007, 0x7_00000007},
		{api.OpAmoaddw, 0xffffffff, 1, 0},
		{api.OpAmoaddd, all, 2, 1},
		{api.OpAmoxorw, all, 1, 0xfffffffe},
		{api.OpAmoandd, 12, 10, 8},
		{api.OpAmoorw, 12, 10, 14},
		{api.OpAmominw, 0xffffffff, 1, 0xffffffff},
		{api.OpAmominw, 0x1_00000002, 0x1, 1},
		{api.OpAmominuw, 0xffffffff, 1, 1},
		{api.OpAmomaxw, 0xffffffff, 1, 1},
		{api.OpAmomaxuw, 0xffffffff, 1, 0xffffffff},
		{api.OpAmomaxuw, 0x1_00000001, 2, 2}, // only the lowest 32 bits are held against each other
		{api.OpAmomind, all, 1, all},
		{api.OpAmominud, all, 1, 1},
		{api.OpAmomaxd, all, 1, 1},
		{api.OpAmomaxud, all, 1, all},
		{api.OpLrw, 9, 7, 0},
		{api.OpLrd, 9, 7, 0},
		{api.OpLd, 9, 7, 0},
		{api.OpAdd, 9, 7, 0},
	} {
		if got := alu.Stored(c.op, c.old, c.b); got != c.want {
			t.Errorf("op %d of %x and %x: %x, not %x", c.op, c.old, c.b, got, c.want)
		}
	}
}

// words: the operations of Value with w at their end.
var words = []int{
	api.OpAddiw, api.OpSlliw, api.OpSrliw, api.OpSraiw, api.OpAddw, api.OpSubw, api.OpSllw, api.OpSrlw, api.OpSraw,
	api.OpMulw, api.OpDivw, api.OpDivuw, api.OpRemw, api.OpRemuw,
}

// P4.4: what an operation with w at its end gives hangs on the lowest 32 bits
// alone, and has bit 31 repeated: so of what reckons and of what loads; what stores has 0 above.
func TestWordsHangOnTheirLowestBits(t *testing.T) {
	const low = 1<<32 - 1
	for _, a := range edges {
		for _, b := range edges {
			for _, op := range words {
				i := api.Inst{Op: op, Rd: 1, Rs1: 2}
				if _, ok := immediates[op]; ok {
					i.Imm = 3
				}
				v, e := alu.Value(i, 0, a, b)
				lowest, _ := alu.Value(i, 0, a&low, b&low)
				if e != api.OK || v != lowest || v != uint64(int64(int32(v))) {
					t.Errorf("op %d of %x and %x: %x, of the lowest bits %x", op, a, b, v, lowest)
				}
			}
			for op := api.OpScw; op <= api.OpAmomaxuw; op++ {
				if v := alu.Stored(op, a, b); v != alu.Stored(op, a&low, b&low) || v > low {
					t.Errorf("op %d of %x and %x: %x", op, a, b, v)
				}
			}
		}
		for op := api.OpLrw; op <= api.OpAmomaxuw; op++ {
			if v := alu.Loaded(op, a); v != alu.Loaded(op, a&low) || v != uint64(int64(int32(v))) {
				t.Errorf("op %d of %x: %x", op, a, v)
			}
		}
		if v := alu.Loaded(api.OpLw, a); v != alu.Loaded(api.OpLw, a&low) || v != uint64(int64(int32(v))) {
			t.Errorf("lw of %x: %x", a, v)
		}
	}
}

// P4.5: of two branches that are each other's contrary just one is taken.
func TestContraryBranches(t *testing.T) {
	for _, c := range [][2]int{{api.OpBlt, api.OpBge}, {api.OpBeq, api.OpBne}, {api.OpBltu, api.OpBgeu}} {
		for _, a := range edges {
			for _, b := range edges {
				one := alu.Taken(api.Inst{Op: c[0], Rs1: 1, Rs2: 2}, a, b)
				other := alu.Taken(api.Inst{Op: c[1], Rs1: 1, Rs2: 2}, a, b)
				if one == other {
					t.Errorf("ops %v of %x and %x: both %v", c, a, b, one)
				}
			}
		}
	}
}
