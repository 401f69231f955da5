package inst_test

import (
	"fmt"
	"strconv"
	"strings"
	"testing"

	"postbag/api"
)

// table: the document's operations, form by form: opcode, f3, f7.
var table = map[string]string{
	"U": "lui 37/0/0, auipc 17/0/0",
	"J": "jal 6f/0/0",
	"I": "jalr 67/0/0, lb 3/0/0, lh 3/1/0, lw 3/2/0, ld 3/3/0, lbu 3/4/0, lhu 3/5/0, lwu 3/6/0, addi 13/0/0, slti 13/2/0, sltiu 13/3/0, xori 13/4/0, ori 13/6/0, andi 13/7/0, addiw 1b/0/0",
	"B": "beq 63/0/0, bne 63/1/0, blt 63/4/0, bge 63/5/0, bltu 63/6/0, bgeu 63/7/0",
	"S": "sb 23/0/0, sh 23/1/0, sw 23/2/0, sd 23/3/0",
	"H": "slli 13/1/0, srli 13/5/0, srai 13/5/20",
	"W": "slliw 1b/1/0, srliw 1b/5/0, sraiw 1b/5/20",
	"R": "add 33/0/0, sub 33/0/20, sll 33/1/0, slt 33/2/0, sltu 33/3/0, xor 33/4/0, srl 33/5/0, sra 33/5/20, or 33/6/0, and 33/7/0, addw 3b/0/0, subw 3b/0/20, sllw 3b/1/0, srlw 3b/5/0, sraw 3b/5/20, mul 33/0/1, mulh 33/1/1, mulhsu 33/2/1, mulhu 33/3/1, div 33/4/1, divu 33/5/1, rem 33/6/1, remu 33/7/1, mulw 3b/0/1, divw 3b/4/1, divuw 3b/5/1, remw 3b/6/1, remuw 3b/7/1",
	"F": "fence f/0/0",
	"E": "ecall 73/0/0, ebreak 73/0/1",
	"L": "lr.w 2f/2/2, lr.d 2f/3/2",
	"A": "sc.w 2f/2/3, amoswap.w 2f/2/1, amoadd.w 2f/2/0, amoxor.w 2f/2/4, amoand.w 2f/2/c, amoor.w 2f/2/8, amomin.w 2f/2/10, amomax.w 2f/2/14, amominu.w 2f/2/18, amomaxu.w 2f/2/1c, sc.d 2f/3/3, amoswap.d 2f/3/1, amoadd.d 2f/3/0, amoxor.d 2f/3/4, amoand.d 2f/3/c, amoor.d 2f/3/8, amomin.d 2f/3/10, amomax.d 2f/3/14, amominu.d 2f/3/18, amomaxu.d 2f/3/1c",
}

// names: all operations, in the order of their numbers from 1 on.
const names = "lui auipc jal jalr beq bne blt bge bltu bgeu lb lh lw ld lbu lhu lwu sb sh sw sd addi slti sltiu xori ori andi slli srli srai add sub sll slt sltu xor srl sra or and addiw slliw srliw sraiw addw subw sllw srlw sraw fence ecall ebreak mul mulh mulhsu mulhu div divu rem remu mulw divw divuw remw remuw lr.w sc.w amoswap.w amoadd.w amoxor.w amoand.w amoor.w amomin.w amomax.w amominu.w amomaxu.w lr.d sc.d amoswap.d amoadd.d amoxor.d amoand.d amoor.d amomin.d amomax.d amominu.d amomaxu.d"

// layouts: what a form's word is made of, the highest bit first: of a field its bits, as many noughts as there are, or a number's name and its width.
var layouts = map[string]string{
	"U": "imm[31:12] rd f:opcode:7",
	"J": "imm[20] imm[10:1] imm[11] imm[19:12] rd f:opcode:7",
	"I": "imm[11:0] rs1 f:f3:3 rd f:opcode:7",
	"B": "imm[12] imm[10:5] rs2 rs1 f:f3:3 imm[4:1] imm[11] f:opcode:7",
	"S": "imm[11:5] rs2 rs1 f:f3:3 imm[4:0] f:opcode:7",
	"H": "f:f7:6 imm[5:0] rs1 f:f3:3 rd f:opcode:7",
	"W": "f:f7:7 imm[4:0] rs1 f:f3:3 rd f:opcode:7",
	"R": "f:f7:7 rs2 rs1 f:f3:3 rd f:opcode:7",
	"F": "0000 imm[7:0] 0000000000000 f:opcode:7",
	"E": "f:f7:12 0000000000000 f:opcode:7",
	"L": "f:f7:5 aq rl 00000 rs1 f:f3:3 rd f:opcode:7",
	"A": "f:f7:5 aq rl rs2 rs1 f:f3:3 rd f:opcode:7",
}

// imms: some numbers that may be the Imm of a form, the least and the greatest one first and last.
var imms = map[string][]int{
	"U": {-1 << 31, -1<<31 + 4096, -4096, 0, 4096, 0x12345000, 1<<31 - 8192, 1<<31 - 4096},
	"J": {-1 << 20, -1<<20 + 2, -4, -2, 0, 2, 4, 1 << 10, 1 << 11, 1 << 12, 0x5a5a4, 1<<20 - 4, 1<<20 - 2},
	"I": {-2048, -2047, -1, 0, 1, 0x555, 2046, 2047},
	"B": {-4096, -4094, -4, -2, 0, 2, 4, 16, 1 << 5, 1 << 10, 1 << 11, 0x5a4, 4092, 4094},
	"S": {-2048, -2047, -1, 0, 1, 31, 32, 0x555, 2046, 2047},
	"H": {0, 1, 31, 32, 42, 62, 63},
	"W": {0, 1, 15, 16, 21, 30, 31},
	"R": {0},
	"F": {0, 1, 0x0f, 0x10, 0x33, 0x5a, 254, 255},
	"E": {0},
	"L": {0},
	"A": {0},
}

// wrongImms: those one beyond, and others that may not be.
var wrongImms = map[string][]int{
	"U": {-1<<31 - 1, -1<<31 - 4096, -1<<31 + 1, -4095, -1, 1, 2048, 4095, 4097, 1<<31 - 1, 1 << 31, 1<<31 + 4096, 1 << 32},
	"J": {-1<<20 - 2, -1<<20 - 1, -1<<20 + 1, -1, 1, 3, 1<<20 - 1, 1 << 20, 1<<20 + 2, 1 << 21},
	"I": {-4096, -2049, 2048, 4095, 4096},
	"B": {-4098, -4097, -4095, -1, 1, 3, 4093, 4095, 4096, 4098, 8192},
	"S": {-4096, -2049, 2048, 4095, 4096},
	"H": {-64, -1, 64, 65, 128},
	"W": {-32, -1, 32, 63, 64},
	"R": {-1, 1, 2, 4096},
	"F": {-1, 256, 257, 511, 4096},
	"E": {-1, 1, 2, 4096},
	"L": {-1, 1, 2, 4096},
	"A": {-1, 1, 2, 4096},
}

// row is one operation of the table.
type row struct {
	op             int
	name, form     string
	opcode, f3, f7 uint64
}

// rows tells the table, in the order of the operations' numbers.
func rows(t *testing.T) []row {
	t.Helper()
	all := strings.Fields(names)
	l := make([]row, len(all))
	for form, text := range table {
		for _, part := range strings.Split(text, ", ") {
			name, numbers, _ := strings.Cut(part, " ")
			n := strings.Split(numbers, "/")
			for k, other := range all {
				if other == name {
					l[k] = row{k + 1, name, form, number(t, n[0], 16), number(t, n[1], 10), number(t, n[2], 16)}
				}
			}
		}
	}
	for k, r := range l {
		if r.op != k+1 {
			t.Fatalf("no row of %s", all[k])
		}
	}
	return l
}

func number(t *testing.T, s string, base int) uint64 {
	t.Helper()
	n, err := strconv.ParseUint(s, base, 64)
	if err != nil {
		t.Fatal(err)
	}
	return n
}

// has tells whether a form's words have a field.
func (r row) has(field string) bool {
	for _, part := range strings.Fields(layouts[r.form]) {
		if part == field || strings.HasPrefix(part, field+"[") {
			return true
		}
	}
	return false
}

// word tells an instruction's word by its form's layout, as a text of noughts and ones.
func (r row) word(t *testing.T, i api.Inst) uint32 {
	t.Helper()
	text := ""
	for _, part := range strings.Fields(layouts[r.form]) {
		text += r.part(t, part, i)
	}
	if len(text) != 32 {
		t.Fatalf("form %s has %d bits", r.form, len(text))
	}
	return uint32(number(t, text, 2))
}

func (r row) part(t *testing.T, part string, i api.Inst) string {
	t.Helper()
	if strings.HasPrefix(part, "imm[") {
		high, low, two := strings.Cut(strings.Trim(part, "imm[]"), ":")
		if !two {
			low = high
		}
		return slice(uint64(i.Imm), int(number(t, high, 10)), int(number(t, low, 10)))
	}
	switch part {
	case "rd":
		return slice(uint64(i.Rd), 4, 0)
	case "rs1":
		return slice(uint64(i.Rs1), 4, 0)
	case "rs2":
		return slice(uint64(i.Rs2), 4, 0)
	case "aq":
		return flag(i.Aq)
	case "rl":
		return flag(i.Rl)
	case "f:opcode:7":
		return slice(r.opcode, 6, 0)
	case "f:f3:3":
		return slice(r.f3, 2, 0)
	case "f:f7:5":
		return slice(r.f7, 4, 0)
	case "f:f7:6": // the lowest bit is Imm's highest one
		return slice(r.f7, 6, 1)
	case "f:f7:7":
		return slice(r.f7, 6, 0)
	case "f:f7:12":
		return slice(r.f7, 11, 0)
	}
	return part
}

// slice tells bits high to low of a number as text.
func slice(v uint64, high, low int) string {
	return fmt.Sprintf("%064b", v)[63-high : 64-low]
}

func flag(b bool) string {
	if b {
		return "1"
	}
	return "0"
}

// all tells instructions that may be: of each operation those of many registers, Imms, Aq and Rl.
func all(t *testing.T) []api.Inst {
	t.Helper()
	var l []api.Inst
	for _, r := range rows(t) {
		for _, imm := range imms[r.form] {
			for _, regs := range [][3]int{{0, 0, 0}, {31, 31, 31}, {1, 2, 3}, {31, 0, 0}, {0, 31, 0}, {0, 0, 31}, {16, 8, 4}, {21, 10, 21}, {2, 5, 5}} {
				for order := range 4 {
					l = append(l, r.with(regs, imm, order&1 == 1, order&2 == 2))
				}
			}
		}
	}
	return l
}

// with tells the operation's instruction with those of these fields that its form has.
func (r row) with(regs [3]int, imm int, aq, rl bool) api.Inst {
	i := api.Inst{Op: r.op}
	if r.has("rd") {
		i.Rd = regs[0]
	}
	if r.has("rs1") {
		i.Rs1 = regs[1]
	}
	if r.has("rs2") {
		i.Rs2 = regs[2]
	}
	if r.has("imm") {
		i.Imm = imm
	}
	if r.has("aq") {
		i.Aq, i.Rl = aq, rl
	}
	return i
}

// wrong tells instructions that may not be.
func wrong(t *testing.T) []api.Inst {
	t.Helper()
	var l []api.Inst
	for _, op := range noOperations() {
		l = append(l, api.Inst{Op: op}, api.Inst{Op: op, Rd: 1, Rs1: 2, Rs2: 3})
	}
	for _, r := range rows(t) {
		base := r.with([3]int{1, 2, 3}, imms[r.form][0], true, false)
		for _, reg := range []int{-1 << 63, -32, -1, 32, 33, 64, 1 << 32, 1<<63 - 1} {
			a, b, c := base, base, base
			a.Rd, b.Rs1, c.Rs2 = reg, reg, reg
			l = append(l, a, b, c)
		}
		for _, imm := range append([]int{-1 << 63, 1 << 40, 1 << 62, 1<<63 - 1}, wrongImms[r.form]...) {
			a := base
			a.Imm = imm
			l = append(l, a)
		}
		l = append(l, r.foreign(base)...)
	}
	return l
}

// foreign tells instructions with something in a field that their form does not have.
func (r row) foreign(base api.Inst) []api.Inst {
	var l []api.Inst
	for _, reg := range []int{1, 31} {
		if i := base; !r.has("rd") {
			i.Rd = reg
			l = append(l, i)
		}
		if i := base; !r.has("rs1") {
			i.Rs1 = reg
			l = append(l, i)
		}
		if i := base; !r.has("rs2") {
			i.Rs2 = reg
			l = append(l, i)
		}
	}
	if !r.has("aq") {
		a, b := base, base
		a.Aq, b.Rl = true, true
		l = append(l, a, b)
	}
	return l
}

// noOperations tells numbers that are no operation's.
func noOperations() []int {
	return []int{-1 << 63, -88, -87, -1, 0, 88, 89, 127, 128, 256, 257, 1 << 32, 1<<32 + 1, 1<<63 - 1}
}
