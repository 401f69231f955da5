package value_test

import (
	"slices"
	"testing"

	"postbag/api"
	"postbag/value"
)

func integer(n int) api.Value { return api.Value{Kind: api.ValInt, N: n} }

func atom(n int) api.Value { return api.Value{Kind: api.ValAtom, N: n} }

func pid(n int) api.Value { return api.Value{Kind: api.ValPid, N: n} }

func tuple(parts ...api.Value) api.Value { return api.Value{Kind: api.ValTuple, Args: parts} }

// nested is so many tuples in one another, and a value in them.
func nested(deep int, v api.Value) api.Value {
	for range deep {
		v = tuple(v)
	}
	return v
}

// shared is so many tuples in one another, of so many parts each, which are one list: far more parts than could be gone through.
func shared(deep, parts int, v api.Value) api.Value {
	for range deep {
		v = tuple(slices.Repeat([]api.Value{v}, parts)...)
	}
	return v
}

// looped is a tuple that stands in itself.
func looped() api.Value {
	l := make([]api.Value, 2)
	l[0], l[1] = tuple(l...), integer(1)
	return tuple(l...)
}

// row tells numbers that look thrown, the same ones each time.
type row uint64

func (r *row) next(n int) int {
	*r = *r*6364136223846793005 + 1442695040888963407
	return int(uint64(*r) >> 33 % uint64(n))
}

func one[T any](r *row, l ...T) T { return l[r.next(len(l))] }

// number is an integer that may be, often one near an end.
func (r *row) number() int {
	near := one(r, 0, 0, 1<<20, -1<<20, 1<<60, 1<<61-5, -1<<61+4, 1<<30, -1<<30)
	return near + r.next(9) - 4
}

// value is one that may be.
func (r *row) value(deep int) api.Value {
	kind := 1 + r.next(4)
	if deep == 0 {
		kind = 1 + r.next(3)
	}
	switch kind {
	case api.ValInt:
		return integer(r.number())
	case api.ValTuple:
		var l []api.Value
		for range 1 + r.next(4) {
			l = append(l, r.value(deep-1))
		}
		return tuple(l...)
	}
	return api.Value{Kind: kind, N: one(r, 0, 1, 7, 1<<20-1, r.next(1<<20))}
}

// any is a value of any shape.
func (r *row) any(deep int) api.Value {
	v := r.value(deep)
	switch r.next(6) {
	case 0:
		v.Kind = one(r, -1, 0, 1, 2, 3, 4, 5, 1<<40)
	case 1:
		v.N = one(r, -1, 1, 1<<20, 1<<61, -1<<61-1, 1<<63-1, -1<<63)
	case 2:
		v.Args = slices.Repeat([]api.Value{r.value(1)}, r.next(6))
	}
	return v
}

// like tells plainly whether all of two values is the same.
func like(a, b api.Value) bool {
	return a.Kind == b.Kind && a.N == b.N && slices.EqualFunc(a.Args, b.Args, like)
}

// copied is a value in memory of its own.
func copied(v api.Value) api.Value {
	if v.Args == nil {
		return v
	}
	l := make([]api.Value, len(v.Args))
	for i, part := range v.Args {
		l[i] = copied(part)
	}
	v.Args = l
	return v
}

// is holds a value against what it has to be.
func is(t *testing.T, what string, v, want api.Value) {
	t.Helper()
	if !like(v, want) {
		t.Errorf("%s: %s, not %s", what, value.Text(v), value.Text(want))
	}
}
