package lex_test

import (
	"slices"
	"strings"
	"testing"

	"postbag/api"
	"postbag/lex"
)

var keywords = []string{"actor", "main", "let", "spawn", "send", "out", "become", "stop",
	"if", "else", "receive", "when", "after", "self", "_"}

var signs = []string{"(", ")", "{", "}", ",", ";", "=", "==", "+", "-", "*", "<"}

func name(at int, text string) api.Token {
	return api.Token{Kind: api.TokName, At: at, Text: text}
}

func number(at int, text string, n int) api.Token {
	return api.Token{Kind: api.TokInt, At: at, Text: text, N: n}
}

func atom(at int, text string) api.Token {
	return api.Token{Kind: api.TokAtom, At: at, Text: text}
}

func sign(at int, text string) api.Token {
	return api.Token{Kind: api.TokSign, At: at, Text: text}
}

func end(at int) api.Token { return api.Token{Kind: api.TokEnd, At: at} }

// letters is a name of n bytes.
func letters(n int) string { return strings.Repeat("a", n) }

// short is a text as it may stand in a line of what went wrong.
func short(src string) string {
	if len(src) > 60 {
		return src[:60] + ".."
	}
	return src
}

// isWords holds a source against its words.
func isWords(t *testing.T, src string, want ...api.Token) {
	t.Helper()
	in := []byte(src)
	words, at, e := lex.Tokens(in)
	if e != api.OK || at != 0 || !slices.Equal(words, want) {
		t.Errorf("%q: %v, %d, %d, not %v", short(src), words, at, int(e), want)
	}
	if string(in) != src {
		t.Errorf("%q: the source is another one", short(src))
	}
}

// isWrong holds a source against the place of its first word that is wrong.
func isWrong(t *testing.T, src string, want int) {
	t.Helper()
	words, at, e := lex.Tokens([]byte(src))
	if e != api.ErrLex || at != want || len(words) != 0 {
		t.Errorf("%q: %d words, %d, %d, not wrong at %d", short(src), len(words), at, int(e), want)
	}
}

// row tells numbers that look thrown, the same ones each time.
type row uint64

func (r *row) next(n int) int {
	*r = *r*6364136223846793005 + 1442695040888963407
	return int(uint64(*r) >> 33 % uint64(n))
}

// pieces are what sources are thrown together from: words, what stands between them, and what no word begins with.
var pieces = []string{"a", "b1", "_", "_x", "Z9_", "self", "actor", "selfs", "0", "7", "12", "007",
	"2305843009213693951", "2305843009213693952", "'", "'ok", "'_", "'_1", "'stop", "'1", "''",
	"(", ")", "{", "}", ",", ";", "=", "==", "===", "+", "-", "*", "<", "<=",
	" ", " ", "\t", "\r", "\n", "\n", "#", "# x ' ? \n", "\r\n",
	letters(31), letters(32), letters(33), "'" + letters(32), "'" + letters(33)}

var odd = []string{"?", ".", "\"", "!", "\x00", "\x7f", "\x80", "\xff", "é", "\v", "\f", "/", ":", "@", "[", "`", "|", "~", ">"}

// source throws so many pieces together, of which one in some is odd.
func (r *row) source(n, some int) string {
	var b strings.Builder
	for range n {
		list := pieces
		if r.next(some) == 0 {
			list = odd
		}
		b.WriteString(list[r.next(len(list))])
	}
	return b.String()
}
