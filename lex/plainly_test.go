package lex_test

import (
	"math/big"
	"regexp"
	"slices"
	"strings"
	"testing"

	"postbag/api"
	"postbag/lex"
)

var (
	gap   = regexp.MustCompile(`^(?:[ \t\r\n]|#[^\n]*)+`)
	names = regexp.MustCompile(`^[a-zA-Z_][a-zA-Z_0-9]*`)
	ints  = regexp.MustCompile(`^[0-9]+`)
	atoms = regexp.MustCompile(`^'[a-zA-Z_][a-zA-Z_0-9]*`)
	sorts = regexp.MustCompile(`^(?:==|[(){},;=+*<-])`)
)

// plainly tells a source's words a second time, by patterns that are held against what is left of it.
func plainly(src string) ([]api.Token, int, api.Errno) {
	if len(src) > api.MaxSource {
		return nil, api.MaxSource, api.ErrLex
	}
	var l []api.Token
	for at := 0; ; {
		at += len(gap.FindString(src[at:]))
		rest := src[at:]
		w := api.Token{At: at}
		n := 0
		if s := names.FindString(rest); s != "" && len(s) <= 32 {
			w.Kind, w.Text, n = api.TokName, s, len(s)
		} else if s := ints.FindString(rest); s != "" {
			v, _ := new(big.Int).SetString(s, 10)
			if v.Cmp(big.NewInt(api.MaxInt)) <= 0 {
				w.Kind, w.Text, w.N, n = api.TokInt, s, int(v.Int64()), len(s)
			}
		} else if s := atoms.FindString(rest); s != "" && len(s) <= 33 && !slices.Contains(keywords, s[1:]) {
			w.Kind, w.Text, n = api.TokAtom, s[1:], len(s)
		} else if s := sorts.FindString(rest); s != "" {
			w.Kind, w.Text, n = api.TokSign, s, len(s)
		}
		switch {
		case rest == "":
			return append(l, api.Token{Kind: api.TokEnd, At: at}), 0, api.OK
		case n == 0:
			return nil, at, api.ErrLex
		}
		l = append(l, w)
		at += n
	}
}

// P11.2: held against the second telling.
func TestTokensPlainly(t *testing.T) {
	r := row(1)
	right := 0
	for range 20000 {
		src := r.source(r.next(20), 40)
		words, at, e := lex.Tokens([]byte(src))
		wantWords, wantAt, want := plainly(src)
		if e != want || at != wantAt || !slices.Equal(words, wantWords) {
			t.Fatalf("%q: %v, %d, %d, not %v, %d, %d", src, words, at, int(e), wantWords, wantAt, int(want))
		}
		if e == api.OK && len(words) > 4 {
			right++
		}
	}
	if right < 1000 {
		t.Error(right)
	}
}

// P11.2: of bytes that are thrown one by one, too.
func TestTokensOfBytes(t *testing.T) {
	r := row(2)
	for range 20000 {
		src := make([]byte, r.next(6))
		for i := range src {
			src[i] = byte(r.next(128 + r.next(129)))
		}
		words, at, e := lex.Tokens(src)
		wantWords, wantAt, want := plainly(string(src))
		if e != want || at != wantAt || !slices.Equal(words, wantWords) {
			t.Fatalf("%q: %v, %d, %d, not %v, %d, %d", src, words, at, int(e), wantWords, wantAt, int(want))
		}
	}
}

// written is a word as it stands in a source.
func written(w api.Token) string {
	if w.Kind == api.TokAtom {
		return "'" + w.Text
	}
	return w.Text
}

// P11.3: all bytes stand in words, or between them.
func TestTokensWhole(t *testing.T) {
	r := row(3)
	for range 10000 {
		src := r.source(r.next(20), 1000)
		words, at, e := lex.Tokens([]byte(src))
		if e != api.OK {
			// Up to the word that is wrong it is whole as well.
			src = src[:at]
			words, _, e = lex.Tokens([]byte(src))
			if e != api.OK {
				t.Fatalf("%q: wrong in front of what was told", src)
			}
		}
		at = 0
		for _, w := range words {
			if w.At < at || gap.FindString(src[at:w.At]) != src[at:w.At] {
				t.Fatalf("%q: %q stands between words", src, src[at:w.At])
			}
			if !strings.HasPrefix(src[w.At:], written(w)) {
				t.Fatalf("%q: no %q at %d", src, written(w), w.At)
			}
			at = w.At + len(written(w))
		}
		if last := words[len(words)-1]; last != end(len(src)) || at != len(src) {
			t.Fatalf("%q: ends by %v", src, last)
		}
	}
}

// P11.4: words of two sources with a line feed between them are those of both.
func TestTokensParts(t *testing.T) {
	r := row(4)
	both := 0
	for range 20000 {
		a, b := r.source(r.next(10), 200), r.source(r.next(10), 200)
		wordsA, atA, eA := lex.Tokens([]byte(a))
		wordsB, atB, eB := lex.Tokens([]byte(b))
		words, at, e := lex.Tokens([]byte(a + "\n" + b))
		if eA != api.OK {
			if e != api.ErrLex || at != atA {
				t.Fatalf("%q and %q: %d, %d", a, b, at, int(e))
			}
			continue
		}
		if eB != api.OK {
			if e != api.ErrLex || at != len(a)+1+atB {
				t.Fatalf("%q and %q: %d, %d", a, b, at, int(e))
			}
			continue
		}
		want := wordsA[:len(wordsA)-1]
		for _, w := range wordsB {
			w.At += len(a) + 1
			want = append(want, w)
		}
		if e != api.OK || !slices.Equal(words, want) {
			t.Fatalf("%q and %q: %v, not %v", a, b, words, want)
		}
		both++
	}
	if both < 2000 {
		t.Error(both)
	}
}
