package inst

import (
	"postbag/api"
	"postbag/bits"
)

// The forms. They stand above the digits of a row of codes, so that a row has all in one number.
const (
	noForm uint32 = iota << 20
	formU
	formJ
	formI
	formB
	formS
	formH
	formW
	formR
	formF
	formE
	formL
	formA
)

// codes has of each operation its form and, digit by digit, its opcode, f3 and f7.
var codes = [...]uint32{
	api.OpLui:      formU | 0x37_0_00,
	api.OpAuipc:    formU | 0x17_0_00,
	api.OpJal:      formJ | 0x6f_0_00,
	api.OpJalr:     formI | 0x67_0_00,
	api.OpBeq:      formB | 0x63_0_00,
	api.OpBne:      formB | 0x63_1_00,
	api.OpBlt:      formB | 0x63_4_00,
	api.OpBge:      formB | 0x63_5_00,
	api.OpBltu:     formB | 0x63_6_00,
	api.OpBgeu:     formB | 0x63_7_00,
	api.OpLb:       formI | 0x03_0_00,
	api.OpLh:       formI | 0x03_1_00,
	api.OpLw:       formI | 0x03_2_00,
	api.OpLd:       formI | 0x03_3_00,
	api.OpLbu:      formI | 0x03_4_00,
	api.OpLhu:      formI | 0x03_5_00,
	api.OpLwu:      formI | 0x03_6_00,
	api.OpSb:       formS | 0x23_0_00,
	api.OpSh:       formS | 0x23_1_00,
	api.OpSw:       formS | 0x23_2_00,
	api.OpSd:       formS | 0x23_3_00,
	api.OpAddi:     formI | 0x13_0_00,
	api.OpSlti:     formI | 0x13_2_00,
	api.OpSltiu:    formI | 0x13_3_00,
	api.OpXori:     formI | 0x13_4_00,
	api.OpOri:      formI | 0x13_6_00,
	api.OpAndi:     formI | 0x13_7_00,
	api.OpSlli:     formH | 0x13_1_00,
	api.OpSrli:     formH | 0x13_5_00,
	api.OpSrai:     formH | 0x13_5_20,
	api.OpAdd:      formR | 0x33_0_00,
	api.OpSub:      formR | 0x33_0_20,
	api.OpSll:      formR | 0x33_1_00,
	api.OpSlt:      formR | 0x33_2_00,
	api.OpSltu:     formR | 0x33_3_00,
	api.OpXor:      formR | 0x33_4_00,
	api.OpSrl:      formR | 0x33_5_00,
	api.OpSra:      formR | 0x33_5_20,
	api.OpOr:       formR | 0x33_6_00,
	api.OpAnd:      formR | 0x33_7_00,
	api.OpAddiw:    formI | 0x1b_0_00,
	api.OpSlliw:    formW | 0x1b_1_00,
	api.OpSrliw:    formW | 0x1b_5_00,
	api.OpSraiw:    formW | 0x1b_5_20,
	api.OpAddw:     formR | 0x3b_0_00,
	api.OpSubw:     formR | 0x3b_0_20,
	api.OpSllw:     formR | 0x3b_1_00,
	api.OpSrlw:     formR | 0x3b_5_00,
	api.OpSraw:     formR | 0x3b_5_20,
	api.OpFence:    formF | 0x0f_0_00,
	api.OpEcall:    formE | 0x73_0_00,
	api.OpEbreak:   formE | 0x73_0_01,
	api.OpMul:      formR | 0x33_0_01,
	api.OpMulh:     formR | 0x33_1_01,
	api.OpMulhsu:   formR | 0x33_2_01,
	api.OpMulhu:    formR | 0x33_3_01,
	api.OpDiv:      formR | 0x33_4_01,
	api.OpDivu:     formR | 0x33_5_01,
	api.OpRem:      formR | 0x33_6_01,
	api.OpRemu:     formR | 0x33_7_01,
	api.OpMulw:     formR | 0x3b_0_01,
	api.OpDivw:     formR | 0x3b_4_01,
	api.OpDivuw:    formR | 0x3b_5_01,
	api.OpRemw:     formR | 0x3b_6_01,
	api.OpRemuw:    formR | 0x3b_7_01,
	api.OpLrw:      formL | 0x2f_2_02,
	api.OpScw:      formA | 0x2f_2_03,
	api.OpAmoswapw: formA | 0x2f_2_01,
	api.OpAmoaddw:  formA | 0x2f_2_00,
	api.OpAmoxorw:  formA | 0x2f_2_04,
	api.OpAmoandw:  formA | 0x2f_2_0c,
	api.OpAmoorw:   formA | 0x2f_2_08,
	api.OpAmominw:  formA | 0x2f_2_10,
	api.OpAmomaxw:  formA | 0x2f_2_14,
	api.OpAmominuw: formA | 0x2f_2_18,
	api.OpAmomaxuw: formA | 0x2f_2_1c,
	api.OpLrd:      formL | 0x2f_3_02,
	api.OpScd:      formA | 0x2f_3_03,
	api.OpAmoswapd: formA | 0x2f_3_01,
	api.OpAmoaddd:  formA | 0x2f_3_00,
	api.OpAmoxord:  formA | 0x2f_3_04,
	api.OpAmoandd:  formA | 0x2f_3_0c,
	api.OpAmoord:   formA | 0x2f_3_08,
	api.OpAmomind:  formA | 0x2f_3_10,
	api.OpAmomaxd:  formA | 0x2f_3_14,
	api.OpAmominud: formA | 0x2f_3_18,
	api.OpAmomaxud: formA | 0x2f_3_1c,
}

// head is what an operation is known by: its form, and the three numbers of its row.
type head struct {
	form           uint32
	opcode, f3, f7 uint64
}

// headOf tells an operation's head; of what is no operation one with noForm.
func headOf(op int) head {
	if op < 0 || op >= len(codes) {
		return head{}
	}
	row := codes[op]
	return head{
		form:   row &^ 0xff_f_ff,
		opcode: uint64(row >> 12 & 0xff),
		f3:     uint64(row >> 8 & 0xf),
		f7:     uint64(row & 0xff),
	}
}

// headIn tells the head that a word of some form has.
func headIn(form uint32, w uint64) head {
	return head{
		form:   form,
		opcode: bits.Field(w, 0, 7),
		f3:     f3At(form).get(0, w),
		f7:     f7At(form).get(0, w),
	}
}

// word tells a word that has the head, and 0 in all else.
func (h head) word() uint64 {
	w := bits.Place(0, 0, 7, h.opcode)
	w = f3At(h.form).put(w, h.f3)
	return f7At(h.form).put(w, h.f7)
}

// f3At tells where words of a form have f3.
func f3At(form uint32) piece {
	switch form {
	case formU, formJ, formF, formE:
		return piece{}
	}
	return piece{0, 3, 12}
}

// f7At tells where words of a form have f7.
func f7At(form uint32) piece {
	switch form {
	case formH:
		return piece{1, 6, 26} // in the place of f7's lowest bit stands Imm's highest one
	case formW, formR:
		return piece{0, 7, 25}
	case formE:
		return piece{0, 12, 20}
	case formL, formA:
		return piece{0, 5, 27}
	}
	return piece{}
}
