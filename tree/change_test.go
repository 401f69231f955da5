package tree_test

import (
	"reflect"

	"postbag/api"
)

// copied is a tree in memory of its own.
func copied(p api.Program) api.Program {
	var walk func(to, from reflect.Value)
	walk = func(to, from reflect.Value) {
		switch from.Kind() {
		case reflect.Struct:
			for i := range from.NumField() {
				walk(to.Field(i), from.Field(i))
			}
		case reflect.Slice:
			to.Set(reflect.MakeSlice(from.Type(), from.Len(), from.Len()))
			for i := range from.Len() {
				walk(to.Index(i), from.Index(i))
			}
		default:
			to.Set(from)
		}
	}
	q := api.Program{}
	walk(reflect.ValueOf(&q).Elem(), reflect.ValueOf(p))
	return q
}

// place is where in a tree something may be altered.
type place struct {
	field string // the field's name
	value reflect.Value
}

// places are all there are in a tree, but for the At.
func places(p *api.Program) (real, ats []place) {
	var walk func(v reflect.Value, field string)
	walk = func(v reflect.Value, field string) {
		if field == "At" {
			ats = append(ats, place{field, v})
			return
		}
		if v.Kind() != reflect.Struct {
			real = append(real, place{field, v})
		}
		switch v.Kind() {
		case reflect.Struct:
			for i := range v.NumField() {
				walk(v.Field(i), v.Type().Field(i).Name)
			}
		case reflect.Slice:
			for i := range v.Len() {
				walk(v.Index(i), "")
			}
		}
	}
	walk(reflect.ValueOf(p).Elem(), "")
	return real, ats
}

// alter makes a place another one, in a way that is thrown: a kind, a number, a name, a bool,
// a list that is longer or shorter by one, or that has two of its parts the other way round.
func (r *row) alter(v reflect.Value) {
	switch v.Kind() {
	case reflect.Int:
		v.SetInt(one(r, v.Int()+1, v.Int()-1, -v.Int()-1, v.Int()^1<<40))
	case reflect.String:
		v.SetString(one(r, v.String()+"b", "b"+v.String(), ""+v.String()+"_", v.String()+"?"))
	case reflect.Bool:
		v.SetBool(!v.Bool())
	case reflect.Slice:
		r.alterList(v)
	}
}

func (r *row) alterList(v reflect.Value) {
	n := v.Len()
	if n > 0 && r.next(2) == 0 {
		v.Set(v.Slice(0, n-1))
		return
	}
	more := reflect.New(v.Type().Elem()).Elem()
	if n > 0 && r.next(2) == 0 {
		more = v.Index(r.next(n))
	} else if e, ok := r.part(v.Type().Elem()); ok {
		more = e
	}
	v.Set(reflect.Append(v, more))
}

// part is one of a type that may be.
func (r *row) part(t reflect.Type) (reflect.Value, bool) {
	switch t {
	case reflect.TypeFor[api.Expr]():
		return reflect.ValueOf(r.expr(2)), true
	case reflect.TypeFor[api.Pattern]():
		return reflect.ValueOf(r.pattern(2)), true
	case reflect.TypeFor[api.Stmt]():
		return reflect.ValueOf(r.stmt()), true
	case reflect.TypeFor[api.Body]():
		return reflect.ValueOf(r.body(2)), true
	case reflect.TypeFor[api.Arm]():
		return reflect.ValueOf(r.arm(2)), true
	}
	return reflect.Value{}, false
}

// change is a tree that is unlike one in one place alone.
func (r *row) change(p api.Program) api.Program {
	q := copied(p)
	real, _ := places(&q)
	r.alter(real[r.next(len(real))].value)
	return q
}
