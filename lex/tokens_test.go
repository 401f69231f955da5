package lex_test

import (
	"bytes"
	"strconv"
	"strings"
	"testing"

	"postbag/api"
	"postbag/lex"
)

// P11.2: the chapter's example.
func TestTokensExample(t *testing.T) {
	isWords(t, "send p, {'a, 12};", name(0, "send"), name(5, "p"), sign(6, ","), sign(8, "{"), atom(9, "a"),
		sign(11, ","), number(13, "12", 12), sign(15, "}"), sign(16, ";"), end(17))
}

// P11.2: a source of nothing but what stands between words has the end alone, at its length.
func TestTokensNone(t *testing.T) {
	if words, at, e := lex.Tokens(nil); len(words) != 1 || words[0] != end(0) || at != 0 || e != api.OK {
		t.Errorf("nil: %v, %d, %d", words, at, int(e))
	}
	for _, src := range []string{"", " ", "\t", "\r", "\n", " \t\r\n \n", "#", "# ", "#\n", "# a ? ' (", "##\n#\n", "\n\n# é\x00\xff\n\t"} {
		isWords(t, src, end(len(src)))
	}
}

// P11.2: a comment goes up to the line feed, or the end, and to nothing else.
func TestTokensComment(t *testing.T) {
	isWords(t, "a#b\nc", name(0, "a"), name(4, "c"), end(5))
	isWords(t, "a # b # c", name(0, "a"), end(9))
	isWords(t, "#\na", name(2, "a"), end(3))
	isWords(t, "a#b\rc\td", name(0, "a"), end(7))
	isWords(t, "1#2\n#3\n4", number(0, "1", 1), number(7, "4", 4), end(8))
	isWords(t, "a #", name(0, "a"), end(3))
	isWrong(t, "a # ?\n?", 6)
	isWrong(t, "'#\na", 0)
}

// P11.2: no other byte stands between words, and no other one begins a word.
func TestTokensByteByByte(t *testing.T) {
	const begins = "abcdefghijklmnopqrstuvwxyzABCDEFGHIJKLMNOPQRSTUVWXYZ_0123456789(){},;=+-*<"
	for c := range 256 {
		b := string([]byte{byte(c)})
		switch {
		case strings.Contains(" \t\r\n", b):
			isWords(t, "("+b+")", sign(0, "("), sign(2, ")"), end(3))
		case b == "#":
			isWords(t, "("+b+")", sign(0, "("), end(3))
		case !strings.Contains(begins, b):
			isWrong(t, b, 0)
			isWrong(t, "("+b+")", 1)
			isWrong(t, "( "+b, 2)
			isWrong(t, "a"+b, 1)
		default:
			if words, at, e := lex.Tokens([]byte("(" + b + ")")); len(words) != 4 || at != 0 || e != api.OK {
				t.Errorf("%q: %v, %d, %d", b, words, at, int(e))
			}
		}
	}
}

// P11.2: each sign is one, the longest one counting.
func TestTokensSigns(t *testing.T) {
	for _, s := range signs {
		isWords(t, s, sign(0, s), end(len(s)))
		isWords(t, "a"+s+"b", name(0, "a"), sign(1, s), name(1+len(s), "b"), end(2+len(s)))
	}
	isWords(t, "===", sign(0, "=="), sign(2, "="), end(3))
	isWords(t, "====", sign(0, "=="), sign(2, "=="), end(4))
	isWords(t, "= =", sign(0, "="), sign(2, "="), end(3))
	isWords(t, "=#\n=", sign(0, "="), sign(3, "="), end(4))
	isWords(t, "<==<", sign(0, "<"), sign(1, "=="), sign(3, "<"), end(4))
	isWords(t, "<=-+*", sign(0, "<"), sign(1, "="), sign(2, "-"), sign(3, "+"), sign(4, "*"), end(5))
	isWords(t, "(){},;", sign(0, "("), sign(1, ")"), sign(2, "{"), sign(3, "}"), sign(4, ","), sign(5, ";"), end(6))
}

// P11.2: a keyword, or what is no name but short enough, is a name's word all the same.
func TestTokensNames(t *testing.T) {
	for _, k := range keywords {
		isWords(t, k, name(0, k), end(len(k)))
		isWords(t, " "+k+"x", name(1, k+"x"), end(len(k)+2))
	}
	for _, s := range []string{"a", "Z", "_a", "__", "_1", "a1b2", "selfself", letters(31), letters(32)} {
		isWords(t, s, name(0, s), end(len(s)))
	}
	isWords(t, "let a1_=_", name(0, "let"), name(4, "a1_"), sign(7, "="), name(8, "_"), end(9))
	isWrong(t, letters(33), 0)
	isWrong(t, "let  "+letters(33)+" = 1;", 5)
	isWrong(t, letters(1<<15), 0)
	isWords(t, letters(32)+" "+letters(32), name(0, letters(32)), name(33, letters(32)), end(65))
}

// P11.2: digits are a number, whatever stands behind them.
func TestTokensNumbers(t *testing.T) {
	for _, n := range []int{0, 1, 9, 10, 12, 99, 100, 1 << 31, 1 << 32, 1 << 60, api.MaxInt - 9, api.MaxInt - 1, api.MaxInt} {
		s := strconv.Itoa(n)
		isWords(t, s, number(0, s, n), end(len(s)))
		isWords(t, "-"+s, sign(0, "-"), number(1, s, n), end(len(s)+1))
		for _, zeros := range []int{1, 20, 1 << 15} {
			far := strings.Repeat("0", zeros) + s
			isWords(t, far, number(0, far, n), end(len(far)))
		}
	}
	isWords(t, "12ab", number(0, "12", 12), name(2, "ab"), end(4))
	isWords(t, "0x1", number(0, "0", 0), name(1, "x1"), end(3))
	isWords(t, "1_000", number(0, "1", 1), name(1, "_000"), end(5))
	isWords(t, "1 2", number(0, "1", 1), number(2, "2", 2), end(3))
	isWords(t, "1'a2", number(0, "1", 1), atom(1, "a2"), end(4))
}

// P11.2: a number above MaxInt is wrong, by however much it is.
func TestTokensNumbersTooGreat(t *testing.T) {
	for _, s := range []string{"2305843009213693952", "2305843009213693953", "2305843009213693960", "2305843009213693961", "3000000000000000000",
		"4611686018427387904", "9223372036854775807", "9223372036854775808", "9999999999999999999", "18446744073709551615",
		"18446744073709551616", "18446744073709551617", "20752587082923245568", "23058430092136939510", "23058430092136939520",
		"340282366920938463463374607431768211457", strings.Repeat("9", 100), "1" + strings.Repeat("0", 1<<15)} {
		isWrong(t, s, 0)
		isWrong(t, "out "+s+";", 4)
		isWrong(t, "000"+s, 0)
	}
	// What a number of 64 bits, that goes round, would make of them is not asked.
	for n := range 100 {
		isWrong(t, "184467440737095516"+strconv.Itoa(16+n), 0)
	}
}

// P11.2: an atom's Text stands behind its '; it is a name, which no keyword is.
func TestTokensAtoms(t *testing.T) {
	for _, s := range []string{"a", "ok", "_a", "__", "_1", "a1", "Self", "selfs", letters(31), letters(32)} {
		isWords(t, "'"+s, atom(0, s), end(len(s)+1))
		isWords(t, "{'"+s+"}", sign(0, "{"), atom(1, s), sign(len(s)+2, "}"), end(len(s)+3))
	}
	isWords(t, "'a'b", atom(0, "a"), atom(2, "b"), end(4))
	for _, k := range keywords {
		isWrong(t, "'"+k, 0)
		isWrong(t, "x '"+k+" ", 2)
		isWords(t, "'"+k+"x", atom(0, k+"x"), end(len(k)+2))
	}
	for _, s := range []string{"'", "''", "' a", "'\na", "'1", "'1a", "'+", "'(", "'#", "'é", "'\xff", "'" + letters(33), "'" + letters(1<<15)} {
		isWrong(t, s, 0)
		isWrong(t, "a "+s, 2)
	}
}

// P11.2: of two words that are wrong the first one is told.
func TestTokensFirstWrong(t *testing.T) {
	faults := []string{"?", "'", "'self", "'1", letters(33), "'" + letters(33), "2305843009213693952", "\x80"}
	for _, a := range faults {
		for _, b := range faults {
			isWrong(t, "x "+a+" y "+b, 2)
			isWrong(t, "x = "+b+"\n"+a, 4)
		}
	}
}

// P11.2: as many bytes as may be are asked, one more is wrong at MaxSource, whatever stands ahead.
func TestTokensMaxSource(t *testing.T) {
	blanks := strings.Repeat(" ", api.MaxSource)
	isWords(t, blanks, end(api.MaxSource))
	isWords(t, blanks[1:]+"x", name(api.MaxSource-1, "x"), end(api.MaxSource))
	isWords(t, "#"+blanks[1:], end(api.MaxSource))
	isWrong(t, blanks[1:]+"?", api.MaxSource-1)
	for _, src := range []string{blanks + " ", blanks + "x", "?" + blanks, "#" + blanks, "'" + blanks, letters(33) + blanks, blanks + blanks} {
		isWrong(t, src, api.MaxSource)
	}
	signs := strings.Repeat("(", api.MaxSource)
	words, at, e := lex.Tokens([]byte(signs))
	if len(words) != api.MaxSource+1 || at != 0 || e != api.OK {
		t.Fatalf("%d words, %d, %d", len(words), at, int(e))
	}
	for i, w := range words[:api.MaxSource] {
		if w != sign(i, "(") {
			t.Fatal(i, w)
		}
	}
	isWrong(t, signs+"(", api.MaxSource)
}

// P11.2: what lies behind the source's length in its memory is no part of it, and its words are in memory of their own.
func TestTokensAlone(t *testing.T) {
	whole := []byte("let abc12 = 'de")
	words, _, e := lex.Tokens(whole[:6])
	if e != api.OK || len(words) != 3 || words[1] != name(4, "ab") || words[2] != end(6) {
		t.Error(words, int(e))
	}
	all, _, _ := lex.Tokens(whole)
	if !bytes.Equal(whole, []byte("let abc12 = 'de")) {
		t.Error("the source is another one")
	}
	for i := range whole {
		whole[i] = '?'
	}
	if len(all) != 5 || all[0].Text != "let" || all[1].Text != "abc12" || all[3].Text != "de" || words[1].Text != "ab" {
		t.Error(all, words)
	}
}
