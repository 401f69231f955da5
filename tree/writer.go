package tree

import (
	"strconv"
	"strings"

	"postbag/api"
)

// writer lays the text of a tree that may be.
type writer struct {
	text strings.Builder
}

// put lays texts one behind the other.
func (w *writer) put(texts ...string) {
	for _, s := range texts {
		w.text.WriteString(s)
	}
}

// list lays a list's parts with what stands between them.
func list[T any](w *writer, parts []T, lay func(T)) {
	for i, part := range parts {
		if i > 0 {
			w.put(", ")
		}
		lay(part)
	}
}

func (w *writer) program(p api.Program) {
	for _, d := range p.Defs {
		w.def(d)
	}
	w.put("main ")
	w.actor(p.Main, p.Args)
	w.put("\n")
}

func (w *writer) def(d api.Def) {
	w.put("actor ", d.Name, "(")
	list(w, d.Params, w.name)
	w.put(") ")
	w.body(d.Body)
	w.put("\n")
}

func (w *writer) name(s string) { w.put(s) }

// actor lays an actor's name with what it is made of.
func (w *writer) actor(name string, args []api.Expr) {
	w.put(name, "(")
	list(w, args, w.expr)
	w.put(")")
}

func (w *writer) body(b api.Body) {
	w.put("{ ")
	for _, s := range b.Stmts {
		w.stmt(s)
		w.put(" ")
	}
	w.end(b)
	w.put(" }")
}

func (w *writer) stmt(s api.Stmt) {
	switch s.Kind {
	case api.StmtLet:
		w.put("let ", s.Name, " = ")
		list(w, s.Args, w.expr)
	case api.StmtSpawn:
		w.put("let ", s.Name, " = spawn ")
		w.actor(s.Actor, s.Args)
	case api.StmtSend:
		w.put("send ")
		list(w, s.Args, w.expr)
	case api.StmtOut:
		w.put("out ")
		list(w, s.Args, w.expr)
	}
	w.put(";")
}

func (w *writer) end(b api.Body) {
	switch b.Kind {
	case api.EndBecome:
		w.put("become ")
		w.actor(b.Actor, b.Args)
	case api.EndStop:
		w.put("stop")
	case api.EndIf:
		w.put("if ")
		list(w, b.Args, w.expr)
		w.put(" ")
		w.body(b.Parts[0])
		w.put(" else ")
		w.body(b.Parts[1])
	case api.EndReceive:
		w.receive(b)
	}
}

func (w *writer) receive(b api.Body) {
	w.put("receive {")
	for _, a := range b.Arms {
		w.put(" ")
		w.arm(a)
	}
	if b.Late {
		w.put(" after ", strconv.Itoa(b.After), " ")
		list(w, b.Parts, w.body)
	}
	w.put(" }")
}

func (w *writer) arm(a api.Arm) {
	w.pattern(a.Pattern)
	for _, guard := range a.Guard {
		w.put(" when ")
		w.expr(guard)
	}
	w.put(" ")
	w.body(a.Body)
}

func (w *writer) expr(e api.Expr) {
	switch e.Kind {
	case api.ExprInt:
		w.put(strconv.Itoa(e.N))
	case api.ExprAtom:
		w.put("'", e.Name)
	case api.ExprVar:
		w.put(e.Name)
	case api.ExprSelf:
		w.put("self")
	case api.ExprTuple:
		w.put("{")
		list(w, e.Args, w.expr)
		w.put("}")
	case api.ExprBin:
		w.put("(")
		w.expr(e.Args[0])
		w.put(" ", e.Name, " ")
		w.expr(e.Args[1])
		w.put(")")
	}
}

func (w *writer) pattern(p api.Pattern) {
	switch p.Kind {
	case api.PatAny:
		w.put("_")
	case api.PatInt:
		w.put(strconv.Itoa(p.N))
	case api.PatAtom:
		w.put("'", p.Name)
	case api.PatVar:
		w.put(p.Name)
	case api.PatTuple:
		w.put("{")
		list(w, p.Args, w.pattern)
		w.put("}")
	}
}
