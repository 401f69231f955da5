package scan_test

import (
	"fmt"
	"testing"

	"postbag/scan"
)

// lives are those of numbers, two by two.
func lives(numbers ...int) []scan.Life {
	var l []scan.Life
	for i := 0; i < len(numbers); i += 2 {
		l = append(l, scan.Life{From: numbers[i], To: numbers[i+1]})
	}
	return l
}

// copies is so many lives that are one.
func copies(n, from, to int) []scan.Life {
	l := make([]scan.Life, n)
	for i := range l {
		l[i] = scan.Life{From: from, To: to}
	}
	return l
}

// assigned holds rooms against what they have to be.
func assigned(t *testing.T, what string, l []scan.Life, regs, slots int, rooms ...int) {
	t.Helper()
	r, n := scan.Assign(l, regs)
	if n != slots || fmt.Sprint(r) != fmt.Sprint(rooms) {
		t.Errorf("%s, %d registers: %v, %d slots, not %v, %d", what, regs, r, n, rooms, slots)
	}
}

// row tells numbers that look thrown, the same ones each time.
type row uint64

func (r *row) next(n int) int {
	*r = *r*6364136223846793005 + 1442695040888963407
	return int(uint64(*r) >> 33 % uint64(n))
}

func one[T any](r *row, l ...T) T { return l[r.next(len(l))] }

// lives are so many that may be, in few places, so that many meet, begin and end together, or only touch.
func (r *row) lives(n, places int) []scan.Life {
	l := make([]scan.Life, n)
	for i := range l {
		from := r.next(places)
		long := 1 + r.next(one(r, 2, 4, places))
		l[i] = scan.Life{From: from, To: from + long}
	}
	return l
}
