package tree_test

import (
	"fmt"
	"reflect"
	"slices"
	"strings"

	"postbag/api"
	"postbag/lex"
)

// What a tree is, told a second time: by the names and types of its fields, whatever they are.

// spell writes all of a tree, but its places.
func spell(v any) string {
	var b strings.Builder
	var walk func(v reflect.Value)
	walk = func(v reflect.Value) {
		switch v.Kind() {
		case reflect.Struct:
			for i := range v.NumField() {
				if f := v.Type().Field(i).Name; f != "At" {
					fmt.Fprintf(&b, " %s:", f)
					walk(v.Field(i))
				}
			}
		case reflect.Slice:
			fmt.Fprintf(&b, "%d(", v.Len())
			for i := range v.Len() {
				walk(v.Index(i))
			}
			b.WriteString(")")
		default:
			fmt.Fprintf(&b, "%#v", v.Interface())
		}
	}
	walk(reflect.ValueOf(v))
	return b.String()
}

// measured tells the Depth and the Size of a program, as far as they go.
func measured(p api.Program) (depth, size int) {
	levels := []reflect.Type{reflect.TypeFor[api.Expr](), reflect.TypeFor[api.Pattern](), reflect.TypeFor[api.Body]()}
	flat := []reflect.Type{reflect.TypeFor[api.Stmt](), reflect.TypeFor[api.Def]()}
	var walk func(v reflect.Value, level int)
	walk = func(v reflect.Value, level int) {
		switch {
		case slices.Contains(levels, v.Type()):
			level++
			if level > 65 {
				return
			}
			depth = max(depth, level)
			size++
		case slices.Contains(flat, v.Type()):
			size++
		}
		switch v.Kind() {
		case reflect.Struct:
			for i := range v.NumField() {
				walk(v.Field(i), level)
			}
		case reflect.Slice:
			for i := range v.Len() {
				walk(v.Index(i), level)
			}
		}
	}
	walk(reflect.ValueOf(p), 0)
	for _, d := range p.Defs {
		size += len(d.Params)
	}
	return depth, min(size, 4097)
}

// has tells whether a part has nothing but its Kind, its place and these.
func has(v any, names ...string) bool {
	s := reflect.ValueOf(v)
	for i := range s.NumField() {
		name, f := s.Type().Field(i).Name, s.Field(i)
		none := f.IsZero() || f.Kind() == reflect.Slice && f.Len() == 0
		if name != "Kind" && name != "At" && !slices.Contains(names, name) && !none {
			return false
		}
	}
	return true
}

// all tells whether each of a list is so.
func all[T any](l []T, is func(T) bool) bool {
	return !slices.ContainsFunc(l, func(x T) bool { return !is(x) })
}

func goodExpr(e api.Expr) bool {
	if !all(e.Args, goodExpr) {
		return false
	}
	switch e.Kind {
	case 1:
		return has(e, "N") && e.N >= 0 && e.N <= 2305843009213693951
	case 2, 3:
		return has(e, "Name") && lex.Name(e.Name)
	case 4:
		return has(e)
	case 5:
		return has(e, "Args") && len(e.Args) >= 1 && len(e.Args) <= 4
	case 6:
		return has(e, "Name", "Args") && len(e.Args) == 2 && slices.Contains([]string{"+", "-", "*", "<", "=="}, e.Name)
	}
	return false
}

func goodPattern(p api.Pattern) bool {
	if !all(p.Args, goodPattern) {
		return false
	}
	switch p.Kind {
	case 1:
		return has(p)
	case 2:
		return has(p, "N") && p.N >= -2305843009213693951 && p.N <= 2305843009213693951
	case 3, 4:
		return has(p, "Name") && lex.Name(p.Name)
	case 5:
		return has(p, "Args") && len(p.Args) >= 1 && len(p.Args) <= 4
	}
	return false
}

func goodStmt(s api.Stmt) bool {
	if !all(s.Args, goodExpr) {
		return false
	}
	switch s.Kind {
	case 1:
		return has(s, "Name", "Args") && lex.Name(s.Name) && len(s.Args) == 1
	case 2:
		return has(s, "Name", "Actor", "Args") && lex.Name(s.Name) && lex.Name(s.Actor) && len(s.Args) <= 8
	case 3:
		return has(s, "Args") && len(s.Args) == 2
	case 4:
		return has(s, "Args") && len(s.Args) == 1
	}
	return false
}

func goodArm(a api.Arm) bool {
	return goodPattern(a.Pattern) && len(a.Guard) <= 1 && all(a.Guard, goodExpr) && goodBody(a.Body)
}

func goodBody(b api.Body) bool {
	if !all(b.Stmts, goodStmt) || !all(b.Args, goodExpr) || !all(b.Parts, goodBody) || !all(b.Arms, goodArm) {
		return false
	}
	switch b.Kind {
	case 1:
		return has(b, "Stmts", "Actor", "Args") && lex.Name(b.Actor) && len(b.Args) <= 8
	case 2:
		return has(b, "Stmts")
	case 3:
		return has(b, "Stmts", "Args", "Parts") && len(b.Args) == 1 && len(b.Parts) == 2
	case 4:
		if b.Late {
			return has(b, "Stmts", "Arms", "Late", "After", "Parts") && len(b.Parts) == 1 && b.After >= 0 && b.After <= 2305843009213693951
		}
		return has(b, "Stmts", "Arms") && len(b.Arms) > 0
	}
	return false
}

// good tells whether a tree may be, of one that is neither too deep nor too great to be gone through.
func good(p api.Program) bool {
	depth, size := measured(p)
	return depth <= 64 && size <= 4096 && len(p.Defs) >= 1 && len(p.Defs) <= 64 && lex.Name(p.Main) && len(p.Args) <= 8 &&
		all(p.Args, goodExpr) && all(p.Defs, func(d api.Def) bool {
		return lex.Name(d.Name) && len(d.Params) <= 8 && all(d.Params, lex.Name) && goodBody(d.Body)
	})
}

// joined is texts with a comma and a blank, or something else, between them.
func joined[T any](l []T, text func(T) string, between ...string) string {
	var all []string
	for _, x := range l {
		all = append(all, text(x))
	}
	return strings.Join(all, append(between, ", ")[0])
}

func exprText(e api.Expr) string {
	return [...]string{
		api.ExprInt:   fmt.Sprint(e.N),
		api.ExprAtom:  "'" + e.Name,
		api.ExprVar:   e.Name,
		api.ExprSelf:  "self",
		api.ExprTuple: "{" + joined(e.Args, exprText) + "}",
		api.ExprBin:   "(" + joined(e.Args, exprText, " "+e.Name+" ") + ")",
	}[e.Kind]
}

func patternText(p api.Pattern) string {
	return [...]string{
		api.PatAny:   "_",
		api.PatInt:   fmt.Sprint(p.N),
		api.PatAtom:  "'" + p.Name,
		api.PatVar:   p.Name,
		api.PatTuple: "{" + joined(p.Args, patternText) + "}",
	}[p.Kind]
}

func stmtText(s api.Stmt) string {
	args := joined(s.Args, exprText)
	return [...]string{
		api.StmtLet:   "let " + s.Name + " = " + args + "; ",
		api.StmtSpawn: "let " + s.Name + " = spawn " + s.Actor + "(" + args + "); ",
		api.StmtSend:  "send " + args + "; ",
		api.StmtOut:   "out " + args + "; ",
	}[s.Kind]
}

func bodyText(b api.Body) string {
	text := "{ "
	for _, s := range b.Stmts {
		text += stmtText(s)
	}
	args := joined(b.Args, exprText)
	switch b.Kind {
	case api.EndBecome:
		text += "become " + b.Actor + "(" + args + ")"
	case api.EndStop:
		text += "stop"
	case api.EndIf:
		text += "if " + args + " " + bodyText(b.Parts[0]) + " else " + bodyText(b.Parts[1])
	case api.EndReceive:
		text += "receive {"
		for _, a := range b.Arms {
			text += " " + patternText(a.Pattern)
			if len(a.Guard) == 1 {
				text += " when " + exprText(a.Guard[0])
			}
			text += " " + bodyText(a.Body)
		}
		if b.Late {
			text += fmt.Sprintf(" after %d ", b.After) + bodyText(b.Parts[0])
		}
		text += " }"
	}
	return text + " }"
}

// programText tells the text of a tree that may be.
func programText(p api.Program) string {
	text := ""
	for _, d := range p.Defs {
		text += "actor " + d.Name + "(" + strings.Join(d.Params, ", ") + ") " + bodyText(d.Body) + "\n"
	}
	return text + "main " + p.Main + "(" + joined(p.Args, exprText) + ")\n"
}
