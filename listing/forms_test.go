package listing_test

import (
	"strconv"
	"strings"

	"postbag/api"
)

// operations: all operations in the order of their numbers from 1 on, each with its form.
const operations = "lui:U auipc:U jal:J jalr:I beq:B bne:B blt:B bge:B bltu:B bgeu:B lb:I lh:I lw:I ld:I lbu:I lhu:I lwu:I sb:S sh:S sw:S sd:S addi:I slti:I sltiu:I xori:I ori:I andi:I slli:H srli:H srai:H add:R sub:R sll:R slt:R sltu:R xor:R srl:R sra:R or:R and:R addiw:I slliw:W srliw:W sraiw:W addw:R subw:R sllw:R srlw:R sraw:R fence:F ecall:E ebreak:E mul:R mulh:R mulhsu:R mulhu:R div:R divu:R rem:R remu:R mulw:R divw:R divuw:R remw:R remuw:R lr.w:L sc.w:A amoswap.w:A amoadd.w:A amoxor.w:A amoand.w:A amoor.w:A amomin.w:A amomax.w:A amominu.w:A amomaxu.w:A lr.d:L sc.d:A amoswap.d:A amoadd.d:A amoxor.d:A amoand.d:A amoor.d:A amomin.d:A amomax.d:A amominu.d:A amomaxu.d:A"

// fields: what a form has, in the order of the text: Rd, Rs1, Rs2, Imm.
var fields = map[string]string{
	"U": "di", "J": "di", "I": "d1i", "B": "12i", "S": "12i", "H": "d1i", "W": "d1i", "R": "d12", "F": "i", "E": "", "L": "d1", "A": "d12",
}

// numbers: some that may be the Imm of a form, the least and the greatest one among them. It is 0 where a form has none.
var numbers = map[string][]int{
	"U": {-1 << 31, -4096, 0, 4096, 1<<31 - 4096},
	"J": {-1 << 20, -2, 0, 2, 1<<20 - 2},
	"I": {-2048, -1, 0, 1, 10, 2047},
	"B": {-4096, -2, 0, 2, 4094},
	"S": {-2048, -1, 0, 1, 10, 2047},
	"H": {0, 1, 10, 63},
	"W": {0, 1, 10, 31},
	"F": {0, 1, 10, 255},
	"R": {0},
	"E": {0},
	"L": {0},
	"A": {0},
}

// beyond: some that may not be the Imm of a form that has it.
var beyond = map[string][]int{
	"U": {-1<<31 - 4096, -1, 1, 4095, 1<<31 - 1, 1 << 31},
	"J": {-1<<20 - 2, -1, 1, 1<<20 - 1, 1 << 20},
	"I": {-2049, 2048},
	"B": {-4098, -1, 1, 4095, 4096},
	"S": {-2049, 2048},
	"H": {-1, 64},
	"W": {-1, 32},
	"F": {-1, 256},
}

// suffixes: what is behind an atomic operation's name, first by Rl, then by Aq.
var suffixes = [2][2]string{{"", ".aq"}, {".rl", ".aqrl"}}

// line is an instruction, and its text.
type line struct {
	i    api.Inst
	text string
}

// linesWith tells the lines that each operation has with these registers and
// each of these numbers of its form, with and without Aq and Rl.
func linesWith(regs [3]int, imms map[string][]int) []line {
	var l []line
	for k, part := range strings.Fields(operations) {
		name, form, _ := strings.Cut(part, ":")
		for _, imm := range imms[form] {
			made := line{api.Inst{Op: k + 1}, name}.with(fields[form], regs, imm)
			l = append(l, made)
			if form == "L" || form == "A" {
				l = append(l, made.ordered(name, 0, 1), made.ordered(name, 1, 0), made.ordered(name, 1, 1))
			}
		}
	}
	return l
}

// with tells the line with these operands behind it.
func (l line) with(has string, regs [3]int, imm int) line {
	for _, f := range has {
		switch f {
		case 'd':
			l.i.Rd = regs[0]
			l.text += " x" + strconv.Itoa(regs[0])
		case '1':
			l.i.Rs1 = regs[1]
			l.text += " x" + strconv.Itoa(regs[1])
		case '2':
			l.i.Rs2 = regs[2]
			l.text += " x" + strconv.Itoa(regs[2])
		case 'i':
			l.i.Imm = imm
			l.text += " " + strconv.Itoa(imm)
		}
	}
	return l
}

// ordered tells the line with Rl and Aq.
func (l line) ordered(name string, rl, aq int) line {
	l.i.Aq, l.i.Rl = aq == 1, rl == 1
	l.text = name + suffixes[rl][aq] + strings.TrimPrefix(l.text, name)
	return l
}

// good tells lines of all operations, with the least and the greatest registers among others.
func good() []line {
	var l []line
	for _, regs := range [][3]int{{1, 2, 3}, {0, 0, 0}, {31, 31, 31}, {31, 0, 10}, {9, 20, 30}} {
		l = append(l, linesWith(regs, numbers)...)
	}
	return l
}

// bad tells instructions that may not be for their registers or their Imm, and
// the lines that they would have.
func bad() []line {
	l := linesWith([3]int{1, 2, 3}, beyond)
	for _, reg := range []int{-1 << 63, -1, 32, 33, 100, 1 << 32, 1<<63 - 1} {
		for k := range 3 {
			regs := [3]int{}
			regs[k] = reg
			for _, made := range linesWith(regs, numbers) {
				if made.i.Rd == reg || made.i.Rs1 == reg || made.i.Rs2 == reg {
					l = append(l, made)
				}
			}
		}
	}
	return l
}
