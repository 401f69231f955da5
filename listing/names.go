package listing

import (
	"strings"

	"postbag/api"
)

// names has of each operation its name, without what is behind it of an atomic one with Aq or Rl.
var names = [...]string{
	api.OpLui:      "lui",
	api.OpAuipc:    "auipc",
	api.OpJal:      "jal",
	api.OpJalr:     "jalr",
	api.OpBeq:      "beq",
	api.OpBne:      "bne",
	api.OpBlt:      "blt",
	api.OpBge:      "bge",
	api.OpBltu:     "bltu",
	api.OpBgeu:     "bgeu",
	api.OpLb:       "lb",
	api.OpLh:       "lh",
	api.OpLw:       "lw",
	api.OpLd:       "ld",
	api.OpLbu:      "lbu",
	api.OpLhu:      "lhu",
	api.OpLwu:      "lwu",
	api.OpSb:       "sb",
	api.OpSh:       "sh",
	api.OpSw:       "sw",
	api.OpSd:       "sd",
	api.OpAddi:     "addi",
	api.OpSlti:     "slti",
	api.OpSltiu:    "sltiu",
	api.OpXori:     "xori",
	api.OpOri:      "ori",
	api.OpAndi:     "andi",
	api.OpSlli:     "slli",
	api.OpSrli:     "srli",
	api.OpSrai:     "srai",
	api.OpAdd:      "add",
	api.OpSub:      "sub",
	api.OpSll:      "sll",
	api.OpSlt:      "slt",
	api.OpSltu:     "sltu",
	api.OpXor:      "xor",
	api.OpSrl:      "srl",
	api.OpSra:      "sra",
	api.OpOr:       "or",
	api.OpAnd:      "and",
	api.OpAddiw:    "addiw",
	api.OpSlliw:    "slliw",
	api.OpSrliw:    "srliw",
	api.OpSraiw:    "sraiw",
	api.OpAddw:     "addw",
	api.OpSubw:     "subw",
	api.OpSllw:     "sllw",
	api.OpSrlw:     "srlw",
	api.OpSraw:     "sraw",
	api.OpFence:    "fence",
	api.OpEcall:    "ecall",
	api.OpEbreak:   "ebreak",
	api.OpMul:      "mul",
	api.OpMulh:     "mulh",
	api.OpMulhsu:   "mulhsu",
	api.OpMulhu:    "mulhu",
	api.OpDiv:      "div",
	api.OpDivu:     "divu",
	api.OpRem:      "rem",
	api.OpRemu:     "remu",
	api.OpMulw:     "mulw",
	api.OpDivw:     "divw",
	api.OpDivuw:    "divuw",
	api.OpRemw:     "remw",
	api.OpRemuw:    "remuw",
	api.OpLrw:      "lr.w",
	api.OpScw:      "sc.w",
	api.OpAmoswapw: "amoswap.w",
	api.OpAmoaddw:  "amoadd.w",
	api.OpAmoxorw:  "amoxor.w",
	api.OpAmoandw:  "amoand.w",
	api.OpAmoorw:   "amoor.w",
	api.OpAmominw:  "amomin.w",
	api.OpAmomaxw:  "amomax.w",
	api.OpAmominuw: "amominu.w",
	api.OpAmomaxuw: "amomaxu.w",
	api.OpLrd:      "lr.d",
	api.OpScd:      "sc.d",
	api.OpAmoswapd: "amoswap.d",
	api.OpAmoaddd:  "amoadd.d",
	api.OpAmoxord:  "amoxor.d",
	api.OpAmoandd:  "amoand.d",
	api.OpAmoord:   "amoor.d",
	api.OpAmomind:  "amomin.d",
	api.OpAmomaxd:  "amomax.d",
	api.OpAmominud: "amominu.d",
	api.OpAmomaxud: "amomaxu.d",
}

// What is behind the name of an atomic operation that has Aq, Rl, or both.
const (
	aq   = ".aq"
	rl   = ".rl"
	aqrl = ".aqrl"
)

// fullName tells the name of an operation, with what is behind it.
func fullName(i api.Inst) string {
	name := names[i.Op]
	switch {
	case i.Aq && i.Rl:
		return name + aqrl
	case i.Aq:
		return name + aq
	case i.Rl:
		return name + rl
	}
	return name
}

// named tells the Op, Aq and Rl that a name is of. Op is 0, if it is no name;
// with Aq or Rl it may be one that has none.
func named(name string) api.Inst {
	var i api.Inst
	switch {
	case strings.HasSuffix(name, aqrl):
		name, i.Aq, i.Rl = strings.TrimSuffix(name, aqrl), true, true
	case strings.HasSuffix(name, aq):
		name, i.Aq = strings.TrimSuffix(name, aq), true
	case strings.HasSuffix(name, rl):
		name, i.Rl = strings.TrimSuffix(name, rl), true
	}
	for op, n := range names {
		if n == name {
			i.Op = op
		}
	}
	return i
}
