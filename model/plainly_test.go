package model_test

import (
	"fmt"
	"maps"
	"reflect"
	"slices"
	"strings"

	"postbag/api"
	"postbag/model"
	"postbag/scope"
	"postbag/value"
)

// What actors do, told a second time: each one has its variables by name, and what is left of its body as a tree.

type player struct {
	lives    bool
	stmts    []api.Stmt
	end      api.Body
	vars     map[string]api.Value
	way, box []api.Value
}

type plain struct {
	p      api.Program
	atoms  []string
	actors []*player
}

func plainly(p api.Program) (*plain, api.Errno) {
	m := &plain{p: p, atoms: scope.Atoms(p)}
	args, e := m.args(&player{}, 0, p.Args)
	if e == api.OK {
		m.make(p.Main, args)
	}
	return m, e
}

func (m *plain) enter(a *player, b api.Body) { a.stmts, a.end = b.Stmts, b }

func (m *plain) start(a *player, name string, args []api.Value) {
	for _, d := range m.p.Defs {
		if d.Name == name {
			a.lives, a.vars = true, map[string]api.Value{}
			for i, s := range d.Params {
				a.vars[s] = args[i]
			}
			m.enter(a, d.Body)
		}
	}
}

func (m *plain) make(name string, args []api.Value) {
	a := &player{}
	m.start(a, name, args)
	m.actors = append(m.actors, a)
}

func (m *plain) eval(a *player, number int, e api.Expr) api.Value {
	var parts []api.Value
	for _, x := range e.Args {
		parts = append(parts, m.eval(a, number, x))
	}
	switch e.Kind {
	case 1:
		return integer(e.N)
	case 2:
		return atom(slices.Index(m.atoms, e.Name))
	case 3:
		return a.vars[e.Name]
	case 4:
		return pid(number)
	case 5:
		return tuple(parts...)
	}
	return value.Op(e.Name, parts[0], parts[1])
}

func wordsAndDepth(v api.Value) (words, deep int) {
	if v.Kind != api.ValTuple {
		return 0, 0
	}
	words = 1
	for _, x := range v.Args {
		w, d := wordsAndDepth(x)
		words, deep = words+1+w, max(deep, d)
	}
	return words, deep + 1
}

func (m *plain) args(a *player, number int, list []api.Expr) ([]api.Value, api.Errno) {
	var l []api.Value
	for _, x := range list {
		v := m.eval(a, number, x)
		if words, deep := wordsAndDepth(v); words > 4096 || deep > 64 {
			return nil, api.ErrRoom
		}
		l = append(l, v)
	}
	return l, api.OK
}

// next tells the expressions of what is next, and what Next tells of it.
func (a *player) next() ([]api.Expr, int) {
	if !a.lives {
		return nil, 0
	}
	if len(a.stmts) > 0 {
		return a.stmts[0].Args, []int{0, 1, 2, 3, 4}[a.stmts[0].Kind]
	}
	return a.end.Args, []int{0, 1, 6, 1, 5}[a.end.Kind]
}

func (m *plain) fit(p api.Pattern, v api.Value, vars map[string]api.Value) bool {
	switch p.Kind {
	case 2:
		return v.Kind == 1 && v.N == p.N
	case 3:
		return v.Kind == 2 && m.atoms[v.N] == p.Name
	case 4:
		vars[p.Name] = v
	case 5:
		if v.Kind != 4 || len(v.Args) != len(p.Args) {
			return false
		}
		for i, q := range p.Args {
			if !m.fit(q, v.Args[i], vars) {
				return false
			}
		}
	}
	return true
}

// takes tells the places of the message and the arm, and all variables then; -1, -1.
func (m *plain) takes(number int) (int, int, map[string]api.Value) {
	a := m.actors[number]
	if _, kind := a.next(); kind != model.Receive {
		return -1, -1, nil
	}
	for i, v := range a.box {
		for k, arm := range a.end.Arms {
			vars := maps.Clone(a.vars)
			if !m.fit(arm.Pattern, v, vars) {
				continue
			}
			if len(arm.Guard) == 0 || value.Holds(m.eval(&player{vars: vars}, number, arm.Guard[0])) {
				return i, k, vars
			}
		}
	}
	return -1, -1, nil
}

func (m *plain) do(x model.Move) (told string, e api.Errno) {
	if x.Actor < 0 || x.Actor >= len(m.actors) || !m.actors[x.Actor].lives || x.Kind < 0 || x.Kind > 2 {
		return "", api.ErrModel
	}
	a := m.actors[x.Actor]
	list, next := a.next()
	i, k, vars := m.takes(x.Actor)
	switch {
	case x.Kind == model.Arrive && len(a.way) == 0,
		x.Kind == model.Late && (next != model.Receive || !a.end.Late || i >= 0),
		x.Kind == model.Run && next == model.Receive && i < 0:
		return "", api.ErrWait
	case x.Kind == model.Arrive:
		a.box, a.way = append(a.box, a.way[0]), slices.Clone(a.way[1:])
		return "", api.OK
	case x.Kind == model.Late:
		m.enter(a, a.end.Parts[0])
		return "", api.OK
	}
	args, e := m.args(a, x.Actor, list)
	if e != api.OK {
		return "", e
	}
	if len(a.stmts) > 0 {
		s := a.stmts[0]
		a.stmts = a.stmts[1:]
		switch s.Kind {
		case 1:
			a.vars[s.Name] = args[0]
		case 2:
			a.vars[s.Name] = pid(len(m.actors))
			m.make(s.Actor, args)
		case 3:
			if args[0].Kind == 3 && m.actors[args[0].N].lives {
				to := m.actors[args[0].N]
				to.way = append(to.way, args[1])
			}
		case 4:
			told = value.Text(args[0])
		}
		return told, api.OK
	}
	switch a.end.Kind {
	case 1:
		m.start(a, a.end.Actor, args)
	case 2:
		*a = player{}
	case 3:
		if value.Holds(args[0]) {
			m.enter(a, a.end.Parts[0])
		} else {
			m.enter(a, a.end.Parts[1])
		}
	case 4:
		a.box = slices.Delete(slices.Clone(a.box), i, i+1)
		a.vars = vars
		m.enter(a, a.end.Arms[k].Body)
	}
	return "", api.OK
}

func (m *plain) clone() *plain {
	c := &plain{p: m.p, atoms: m.atoms}
	for _, a := range m.actors {
		b := *a
		b.vars, b.way, b.box = maps.Clone(a.vars), slices.Clone(a.way), slices.Clone(a.box)
		c.actors = append(c.actors, &b)
	}
	return c
}

func (m *plain) moves() []model.Move {
	var l []model.Move
	for n := range m.actors {
		for _, kind := range []int{model.Run, model.Arrive, model.Late} {
			x := model.Move{Kind: kind, Actor: n}
			if _, e := m.clone().do(x); e == api.OK {
				l = append(l, x)
			}
		}
	}
	return l
}

// spell writes all of a tree, but its places.
func spell(b *strings.Builder, v reflect.Value) {
	switch v.Kind() {
	case reflect.Struct:
		for i := range v.NumField() {
			if f := v.Type().Field(i).Name; f != "At" {
				spell(b, v.Field(i))
			}
		}
	case reflect.Slice:
		fmt.Fprintf(b, "%d(", v.Len())
		for i := range v.Len() {
			spell(b, v.Index(i))
		}
		b.WriteString(")")
	default:
		fmt.Fprintf(b, "%#v ", v.Interface())
	}
}

// state tells all of a model: of each actor what is next, its variables and its messages.
func (m *plain) state() string {
	var b strings.Builder
	for _, a := range m.actors {
		end := a.end
		end.Stmts = a.stmts
		spell(&b, reflect.ValueOf(end))
		for _, name := range slices.Sorted(maps.Keys(a.vars)) {
			fmt.Fprintf(&b, "%s is %s, ", name, value.Text(a.vars[name]))
		}
		fmt.Fprintf(&b, "way %s, box %s\n", texts(a.way), texts(a.box))
	}
	return b.String()
}

// wrong tells what a model tells otherwise than this one; nothing, if all is told alike.
func (m *plain) wrong(n *model.Model) string {
	if n.Actors() != len(m.actors) {
		return fmt.Sprint("Actors ", n.Actors(), " not ", len(m.actors))
	}
	if l, want := n.Moves(), m.moves(); !slices.Equal(l, want) {
		return fmt.Sprint("Moves ", l, " not ", want)
	}
	for k := -1; k <= len(m.actors); k++ {
		a, message, arm := &player{}, -1, -1
		if k >= 0 && k < len(m.actors) {
			a = m.actors[k]
			message, arm, _ = m.takes(k)
		}
		list, next := a.next()
		args, _ := m.args(a, k, list)
		want := fmt.Sprintf("%d: %d, %d(%s), (%s), (%s), ", k, len(a.way)+len(a.box), next, texts(args), texts(a.way), texts(a.box))
		told := fmt.Sprintf("%d: %d, %d(%s), (%s), (%s), ", k, n.Waiting(k), n.Next(k), texts(n.Args(k)), texts(n.Way(k)), texts(n.Box(k)))
		i, j, ok := n.Takes(k)
		if message >= 0 {
			want += fmt.Sprint(message, arm, true)
		} else {
			want += fmt.Sprint(0, 0, false)
		}
		if told += fmt.Sprint(i, j, ok); told != want {
			return told + " not " + want
		}
	}
	return ""
}
