package listing

import (
	"strconv"
	"strings"

	"postbag/api"
	"postbag/inst"
)

// operands is how many operands there are: Rd, Rs1, Rs2 and Imm, in the order of an instruction's text.
const operands = 4

// operandsOf tells which operands an operation's form has: inst lets no other one be but 0.
func operandsOf(op int) [operands]bool {
	may := func(i api.Inst) bool {
		i.Op = op
		return inst.Good(i)
	}
	return [operands]bool{
		may(api.Inst{Rd: 1}),
		may(api.Inst{Rs1: 1}),
		may(api.Inst{Rs2: 1}),
		may(api.Inst{Imm: 2}) || may(api.Inst{Imm: 4096}), // Imm of lui and auipc may be no lesser one
	}
}

// ahead tells what stands ahead of an operand's number.
func ahead(operand int) string {
	if operand < operands-1 {
		return " x"
	}
	return " "
}

// numbersIn tells the numbers that the words of a text give the operands that
// there are. A word that is missing or is no number gives one, too: whether the
// text is an instruction's its caller finds out.
func numbersIn(s string, has [operands]bool) [operands]int {
	var numbers [operands]int
	for k := range numbers {
		if has[k] {
			word, rest, _ := strings.Cut(s, " ")
			numbers[k], _ = strconv.Atoi(strings.TrimPrefix(word, "x"))
			s = rest
		}
	}
	return numbers
}
