package lex_test

import (
	"slices"
	"strings"
	"testing"

	"postbag/lex"
)

// P11.1: the keywords are these, letter by letter, and no more.
func TestKeyword(t *testing.T) {
	for _, k := range keywords {
		if !lex.Keyword(k) {
			t.Errorf("%q is one", k)
		}
		for _, s := range []string{k + " ", " " + k, k + "_", "_" + k, k + "1", "'" + k, k + k, strings.ToUpper(k), k[1:], k[:len(k)-1], k + "\x00"} {
			if lex.Keyword(s) && !slices.Contains(keywords, s) {
				t.Errorf("%q is none", s)
			}
		}
	}
	for _, s := range []string{"", "a", "x", "__", "tuple", "for", "Self", "1", "==", "("} {
		if lex.Keyword(s) {
			t.Errorf("%q is none", s)
		}
	}
}

// P11.1: 1 to 32 bytes, letters, _ and digits, of which the first one is no digit.
func TestName(t *testing.T) {
	for _, s := range []string{"a", "z", "A", "Z", "a1_", "_a", "_1", "__", "_0", "x_y", "Actor", "selfs", "iff", "an",
		"a0123456789", "_________", "abcdefghijklmnopqrstuvwxyz", "ABCDEFGHIJKLMNOPQRSTUVWXYZ", letters(31), letters(32), "_" + letters(31)} {
		if !lex.Name(s) {
			t.Errorf("%q is one", s)
		}
	}
	for _, s := range []string{"", "1", "1a", "0_", "9z", "a b", " a", "a ", "a\n", "'a", "a'", "a-b", "a.b", "a?", "é", "aé", "ä1", "a\x00", "\xff",
		letters(33), "_" + letters(32), letters(1 << 16), "?" + letters(31), letters(31) + "?"} {
		if lex.Name(s) {
			t.Errorf("%q is none", short(s))
		}
	}
}

// P11.1: no keyword is a name, but what is longer or written otherwise may be.
func TestNameIsNoKeyword(t *testing.T) {
	for _, k := range keywords {
		if lex.Name(k) {
			t.Errorf("%q is none", k)
		}
		if !lex.Name(k+"x") || !lex.Name("x"+k) || !lex.Name(k+"_") {
			t.Errorf("more than %q is one", k)
		}
	}
}

// P11.1: of all bytes, those of letters and _ are names alone, and digits stand behind the first byte alone.
func TestNameByteByByte(t *testing.T) {
	for c := range 256 {
		b := string([]byte{byte(c)})
		digit := strings.Contains("0123456789", b)
		letter := strings.Contains("abcdefghijklmnopqrstuvwxyzABCDEFGHIJKLMNOPQRSTUVWXYZ", b)
		if lex.Name(b) != letter {
			t.Errorf("%q alone", b)
		}
		if lex.Name(b+"x") != (letter || b == "_") {
			t.Errorf("%q first", b)
		}
		in := letter || digit || b == "_"
		if lex.Name("x"+b) != in || lex.Name("x"+b+"x") != in {
			t.Errorf("%q behind the first one", b)
		}
	}
}
