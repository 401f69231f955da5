package model

import (
	"slices"
	"strconv"
	"strings"

	"postbag/api"
	"postbag/value"
)

// Key tells all of a model.
func (m *Model) Key() string {
	if !m.made() {
		return ""
	}
	var b strings.Builder
	for _, a := range m.actors {
		a.key(&b)
	}
	return b.String()
}

// key lays what an actor is to do next, its variables, whatever the order in which they were bound, and its messages.
func (a actor) key(b *strings.Builder) {
	if a.next != nil {
		b.WriteString(strconv.Itoa(a.next.id))
	}
	for _, place := range a.sorted() {
		put(b, " ", a.names[place], "=", value.Text(a.values[place]))
	}
	for _, v := range a.way {
		put(b, ">", value.Text(v))
	}
	for _, v := range a.box {
		put(b, "<", value.Text(v))
	}
	b.WriteByte(';')
}

// sorted tells the places of an actor's variables, by their names.
func (a actor) sorted() []int {
	places := make([]int, len(a.names))
	for i := range places {
		places[i] = i
	}
	slices.SortFunc(places, func(i, k int) int { return strings.Compare(a.names[i], a.names[k]) })
	return places
}

// text tells all of a step; of those that it goes on with it tells which they are.
func (s step) text() string {
	var b strings.Builder
	put(&b, strconv.Itoa(int(s.work)), " ", s.name, " ", s.actor)
	putExprs(&b, s.args)
	putSteps(&b, s.then)
	for _, a := range s.arms {
		putPatterns(&b, []api.Pattern{a.pattern})
		putExprs(&b, a.guard)
		putSteps(&b, []*step{a.then})
	}
	if s.late {
		put(&b, "after ", strconv.Itoa(s.after))
	}
	return b.String()
}

func putSteps(b *strings.Builder, list []*step) {
	for _, s := range list {
		put(b, ":", strconv.Itoa(s.id))
	}
}

func putExprs(b *strings.Builder, list []api.Expr) {
	put(b, "(")
	for _, e := range list {
		put(b, strconv.Itoa(e.Kind), " ", strconv.Itoa(e.N), " ", e.Name)
		putExprs(b, e.Args)
	}
	put(b, ")")
}

func putPatterns(b *strings.Builder, list []api.Pattern) {
	put(b, "(")
	for _, p := range list {
		put(b, strconv.Itoa(p.Kind), " ", strconv.Itoa(p.N), " ", p.Name)
		putPatterns(b, p.Args)
	}
	put(b, ")")
}

// put lays texts one behind the other.
func put(b *strings.Builder, texts ...string) {
	for _, s := range texts {
		b.WriteString(s)
	}
}
