package lex

import "postbag/api"

// named tells whether a byte may stand in a name, as its first one or behind that.
func named(c byte, first bool) bool {
	switch {
	case digit(c):
		if first {
			return false
		}
		fallthrough
	case 'a' <= c && c <= 'z', 'A' <= c && c <= 'Z', c == '_':
		return true
	}
	return false
}

// digit tells whether a byte is one.
func digit(c byte) bool { return '0' <= c && c <= '9' }

// between tells where, from a place on, what stands between words ends.
func between(src []byte, at int) int {
	remark := false
bytes:
	for ; at < len(src); at++ {
		switch src[at] {
		case '\n':
			remark = false
		case '#':
			remark = true
		case ' ', '\t', '\r':
		default:
			if !remark {
				break bytes
			}
		}
	}
	return at
}

// wordAt tells the word that begins at a place, and where it ends; one of no kind, if none does.
func wordAt(src []byte, at int) (api.Token, int) {
	word := api.Token{At: at}
	text, end := at, at+1 // where the word's Text begins, and where it ends
	switch c := src[at]; c {
	case '=':
		if end < len(src) && src[end] == '=' {
			end++
		}
		fallthrough
	case '(', ')', '{', '}', ',', ';', '+', '-', '*', '<':
		word.Kind = api.TokSign
	case '\'':
		word.Kind = api.TokAtom
		text, end = end, nameEnd(src, end)
	default:
		switch {
		case digit(c):
			word.Kind = api.TokInt
			word.N, end = number(src, at)
		case named(c, true):
			word.Kind = api.TokName
			end = nameEnd(src, at)
		}
	}
	word.Text = string(src[text:end])
	return word, end
}

// nameEnd tells where the name ends that begins at a place; that place, if none does.
func nameEnd(src []byte, at int) int {
	end := at
	for end < len(src) && named(src[end], end == at) {
		end++
	}
	return end
}

// number tells the number whose digits begin at a place, and where they end; -1, if it is above MaxInt.
func number(src []byte, at int) (int, int) {
	n := 0
	for ; at < len(src) && digit(src[at]); at++ {
		d := int(src[at] - '0')
		// Asked ahead of the sum, which could leave the type; and a number that is too great stays so.
		if n < 0 || n > (api.MaxInt-d)/10 {
			n = -1
			continue
		}
		n = 10*n + d
	}
	return n, at
}
