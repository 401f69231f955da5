package code_test

import (
	"fmt"
	"slices"
	"testing"

	"postbag/api"
	"postbag/code"
)

// Rules 4 and 8: what is handed in stays as it was, its spare room too, and what lies behind its length is not read.
func TestKept(t *testing.T) {
	all := joined(label("a"), beq("z"), nops(1100), jump(1, "a"), address(2, "z"), constant(3, 5000), label("z"), label("a"), api.Item{Kind: 9}, of(12, beq("y")))
	l := all[:len(all)-3]
	before := fmt.Sprint(all)
	words, labels := made(t, l, 0)
	if len(words) != 1107 || placed(labels) != "a@0 z@4428" {
		t.Error(len(words), placed(labels))
	}
	for n := range len(all) {
		code.Assemble(all[:n], uint64(n))
	}
	if fmt.Sprint(all) != before {
		t.Error("the items are changed")
	}
}

// Rule 5: no answer is kept.
func TestNotKept(t *testing.T) {
	l := joined(label("a"), beq("a"), constant(5, 1<<40+1), label("z"))
	words, labels := made(t, l, 0)
	wantWords, wantLabels := slices.Clone(words), slices.Clone(labels)
	insts := code.Const(5, 1<<40+1)
	wantInsts := slices.Clone(insts)
	clear(words)
	clear(labels)
	clear(insts)
	words, labels = made(t, l, 0)
	if !slices.Equal(words, wantWords) || !slices.Equal(labels, wantLabels) || !slices.Equal(code.Const(5, 1<<40+1), wantInsts) {
		t.Error("what is told hangs on an answer")
	}
}

// Rule 1: items of any shape come to an end.
func TestAnyItems(t *testing.T) {
	r, ends := row(4), map[api.Errno]int{}
	for range 30000 {
		l := r.source(r.next(6), 1+r.next(2))
		for k := range r.next(3) {
			l = append(l, l[r.next(len(l))])
			odd := &l[r.next(len(l))]
			switch wild := one(&r, -1<<63, -1, 0, 32, 1<<40, 1<<63-1, k); r.next(6) {
			case 0:
				odd.Kind = wild
			case 1:
				odd.Inst.Rd = wild
			case 2:
				odd.Inst.Op = wild
			case 3:
				odd.Inst.Imm = wild
			case 4:
				odd.Name = one(&r, "", "l0", "l1", "l")
			}
		}
		words, labels, e := code.Assemble(l, one(&r, 0, 0, 4, 1<<30, 3, 1<<63, r.number()))
		if e != api.OK && len(words)+len(labels) != 0 {
			t.Fatalf("error %d, %d words, %d labels", int(e), len(words), len(labels))
		}
		ends[e]++
	}
	for _, e := range []api.Errno{api.OK, api.ErrArg, api.ErrLabel, api.ErrInst} {
		if ends[e] < 500 {
			t.Errorf("error %d but %d times", int(e), ends[e])
		}
	}
}
