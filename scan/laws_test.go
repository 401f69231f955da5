package scan_test

import (
	"fmt"
	"testing"

	"postbag/scan"
)

// thrown goes through thrown lives, with few and many registers.
func thrown(seed row, n int, each func(l []scan.Life, regs int)) {
	for range n {
		l := seed.lives(seed.next(one(&seed, 3, 8, 20)), one(&seed, 4, 12, 30))
		each(l, one(&seed, 0, 1, 1, 2, 3, 4, seed.next(65)))
	}
}

// P18.1, P18.2: thrown lives, held against a plain second telling.
func TestPlainly(t *testing.T) {
	given := 0
	thrown(1, 20000, func(l []scan.Life, regs int) {
		rooms, slots := scan.Assign(l, regs)
		want, n := plainAssign(l, regs)
		if slots != n || fmt.Sprint(rooms) != fmt.Sprint(want) {
			t.Fatalf("%v, %d registers: %v, %d slots, not %v, %d", l, regs, rooms, slots, want, n)
		}
		if peak := scan.Peak(l); peak != plainPeak(l) {
			t.Fatalf("%v: a peak of %d, not %d", l, peak, plainPeak(l))
		}
		if slots > 1 && regs > 1 {
			given++
		}
	})
	if given < 1500 {
		t.Errorf("but %d with registers and slots", given)
	}
}

// P18.3: two lives that meet have unlike rooms.
func TestApart(t *testing.T) {
	thrown(2, 5000, func(l []scan.Life, regs int) {
		rooms, slots := scan.Assign(l, regs)
		for i := range l {
			if rooms[i] >= regs || rooms[i] < -slots {
				t.Fatalf("%v, %d registers, %d slots: %v", l, regs, slots, rooms)
			}
			for k := range i {
				if rooms[i] == rooms[k] && meet(l[i], l[k]) {
					t.Fatalf("%v, %d registers: %d and %d have %d", l, regs, k, i, rooms[i])
				}
			}
		}
	})
}

// P18.4: there are no slots where registers are enough, and never more than lives, nor fewer than are lacking.
func TestFew(t *testing.T) {
	enough := 0
	thrown(3, 5000, func(l []scan.Life, regs int) {
		_, slots := scan.Assign(l, regs)
		peak := scan.Peak(l)
		if slots > len(l) || slots < peak-regs || peak <= regs && slots != 0 {
			t.Fatalf("%v, %d registers: %d slots, a peak of %d", l, regs, slots, peak)
		}
		if peak <= regs && len(l) > 0 {
			enough++
		}
	})
	if enough < 500 {
		t.Errorf("but %d with registers enough", enough)
	}
}
