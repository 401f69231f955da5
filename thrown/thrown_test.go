package thrown_test

import (
	"testing"

	"postbag/api"
	"postbag/bench"
	"postbag/parse"
	"postbag/scope"
	"postbag/thrown"
	"postbag/tree"
)

// kinds counts the kinds of statements and ends of a body, and of those in it.
func kinds(b api.Body, stmts, ends map[int]int) {
	for _, s := range b.Stmts {
		stmts[s.Kind]++
	}
	ends[b.Kind]++
	for _, a := range b.Arms {
		kinds(a.Body, stmts, ends)
	}
	for _, p := range b.Parts {
		kinds(p, stmts, ends)
	}
}

// Programs have texts that are parsed, and their names are there; the same row makes the same ones.
func TestProgram(t *testing.T) {
	r, again := bench.Row(1), bench.Row(1)
	for _, alone := range []bool{false, true} {
		stmts, ends := map[int]int{}, map[int]int{}
		for range 400 {
			s := thrown.Style{Alone: alone, Rounds: 3, Spawns: r.Next(2), Deep: 1 + r.Next(4)}
			again.Next(2)
			again.Next(4)
			p := thrown.Program(&r, s)
			if !tree.Same(p, thrown.Program(&again, s)) {
				t.Fatal("another one")
			}
			src := tree.Print(p)
			q, at, e := parse.Program([]byte(src))
			if e == api.OK {
				at, e = scope.Check(q)
			}
			if e != api.OK || !tree.Same(p, q) {
				t.Fatalf("%s: error %d at %d", src, int(e), at)
			}
			for _, d := range p.Defs {
				kinds(d.Body, stmts, ends)
			}
		}
		for kind, least := range map[int]int{api.StmtLet: 100, api.StmtOut: 200, api.StmtSpawn: 100, api.StmtSend: 200} {
			if more := stmts[kind] >= least; more == (alone && kind != api.StmtLet && kind != api.StmtOut) {
				t.Errorf("alone %t: %d times statement %d", alone, stmts[kind], kind)
			}
		}
		for kind, least := range map[int]int{api.EndBecome: 200, api.EndStop: 200, api.EndIf: 200, api.EndReceive: 100} {
			if more := ends[kind] >= least; more == (alone && kind == api.EndReceive) {
				t.Errorf("alone %t: %d times end %d", alone, ends[kind], kind)
			}
		}
		if alone && stmts[api.StmtSpawn]+stmts[api.StmtSend]+ends[api.EndReceive] > 0 {
			t.Error("it is not alone")
		}
	}
}
