package machine_test

import (
	"slices"
	"testing"

	"postbag/api"
	"postbag/axiom"
	"postbag/hart"
	"postbag/machine"
)

// P9.5: one hart alone has the registers and the memory that hart has behind as many steps.
func TestAlone(t *testing.T) {
	r := row(31)
	stored := 0
	for range 1500 {
		b := r.memory(t, 1, (*row).lone)
		m := started(t, b, 1)
		r.settle(t, m, 5000)
		h, n, e := hart.Run(hart.Hart{}, b, 5000)
		if m.Stopped(0) != e || m.PC(0) != h.PC || m.Issued(0) != n {
			t.Fatalf("%d at %x behind %d, not %d at %x behind %d", int(m.Stopped(0)), m.PC(0), m.Issued(0), int(e), h.PC, n)
		}
		for k := range h.X {
			has(t, m, 0, k, h.X[k])
		}
		was, _ := b.Bytes(0, room)
		if now, _ := m.Bytes(0, room); !slices.Equal(now, was) {
			t.Fatal("the memory is another one")
		}
		if word(t, m, data) != 0 {
			stored++
		}
	}
	if stored < 500 {
		t.Errorf("%d stored something", stored)
	}
}

// P9.5, of code that goes back, step by step.
func TestAloneInALoop(t *testing.T) {
	r := row(33)
	b := bytesOf(t, code("addi x5 x0 10", "ld x6 x0 1024", "add x6 x6 x5", "sd x0 x6 1024", "amoadd.d x7 x8 x5",
		"addi x8 x0 1032", "addi x5 x5 -1", "bne x5 x0 -24", "ebreak"))
	for range 200 {
		m := started(t, b, 1)
		k := b.Clone()
		for n := 0; m.Stopped(0) == api.OK; n++ {
			m.Pick(r.next(9))
		}
		r.settle(t, m, 0)
		h, n, _ := hart.Run(hart.Hart{}, k, 1000)
		if m.Issued(0) != n || n < 70 {
			t.Fatalf("%d steps, not %d", m.Issued(0), n)
		}
		for r := range h.X {
			has(t, m, 0, r, h.X[r])
		}
		has(t, m, 0, 6, 55)
		if v, _ := k.Load(1032, 8); word(t, m, 1032) != v || v == 0 {
			t.Fatalf("%d, not %d", word(t, m, 1032), v)
		}
	}
}

// P9.6: nothing is wrong with what harts did, by the axioms.
func TestAllowed(t *testing.T) {
	r := row(35)
	scs, late := 0, 0
	for range 4000 {
		harts := 1 + r.next(4)
		m := started(t, r.memory(t, harts, (*row).quiet), harts)
		r.settle(t, m, 5000)
		l, gmo := m.Trace()
		if w := axiom.Check(l, gmo); w != (axiom.Wrong{}) {
			t.Fatalf("%+v of\n%+v\n%d", w, l, gmo)
		}
		for _, ops := range l {
			for _, op := range ops {
				if op.Pair != -1 {
					scs++
				}
			}
		}
		if !slices.IsSorted(gmo) {
			late++
		}
	}
	if scs < 500 || late < 1000 {
		t.Errorf("%d scs stored, %d orders are not as the operations were issued", scs, late)
	}
}

// P9.6, of a lock that harts take by lr and sc, and of a sum that they add to.
func TestAllowedOfALock(t *testing.T) {
	r := row(37)
	lines := code(
		"addi x5 x0 1024", "addi x6 x0 1", "addi x9 x0 3", // 0, 4, 8
		"lr.d.aq x7 x5", "bne x7 x0 -4", "sc.d x7 x5 x6", "bne x7 x0 -12", // 12: it is taken
		"ld x8 x0 1032", "addi x8 x8 1", "sd x0 x8 1032", // 28
		"fence 49", "sd x0 x0 1024", // 40: and let go
		"addi x9 x9 -1", "bne x9 x0 -40", "ebreak")
	for range 100 {
		m := laid(t, lines, lines, lines)
		for n := 0; len(m.Choices()) > 0; n++ {
			m.Pick(r.next(1000))
			if n > 200000 {
				t.Fatal("it goes on for too long")
			}
		}
		if v := word(t, m, 1032); v != 9 {
			t.Fatalf("the sum is %d", v)
		}
		l, gmo := m.Trace()
		if w := axiom.Check(l, gmo); w != (axiom.Wrong{}) {
			t.Fatalf("%+v", w)
		}
	}
}

// P9.7: a choice with an error changes nothing.
func TestRefused(t *testing.T) {
	r := row(39)
	met := map[api.Errno]int{}
	for range 60 {
		m := r.program(t)
		for range 40 {
			m.Choose(issue(r.next(3)))
			c := machine.Choice{Hart: one(&r, -1, 0, 0, 1, 1, 2, 2, 3), Kind: r.next(5) - 1, N: r.next(6) - 1}
			was := m.Clone()
			e := m.Choose(c)
			met[e]++
			if e != api.OK && all(m) != all(was) {
				t.Fatalf("%+v: error %d, and something changed", c, int(e))
			}
			if e != api.OK && e != was.Choose(c) {
				t.Fatalf("%+v: another error", c)
			}
			if r.next(3) == 0 {
				m.Pick(r.next(1000))
			}
		}
	}
	for _, e := range []api.Errno{api.OK, api.ErrArg, api.ErrHalt, api.ErrChoice, api.ErrWait} {
		if met[e] < 20 {
			t.Errorf("error %d was met %d times", int(e), met[e])
		}
	}
}

// P9.8: as long as a hart goes on, or something is open, there is a choice.
func TestGoesOn(t *testing.T) {
	r := row(41)
	ended := 0
	for range 1000 {
		m := r.program(t)
		for range 300 {
			goes := false
			for h := range m.Harts() {
				goes = goes || m.Stopped(h) == api.OK || m.Open(h) > 0
			}
			if goes != (len(m.Choices()) > 0) {
				t.Fatalf("it goes on: %t, by %v", goes, m.Choices())
			}
			if !goes {
				ended++
				break
			}
			m.Pick(r.next(1000))
		}
	}
	if ended < 300 {
		t.Errorf("%d ended", ended)
	}
}

// W6: what is done twice comes to the same.
func TestAlike(t *testing.T) {
	for seed := range row(20) {
		one, other := row(seed), row(seed)
		a, b := one.program(t), other.program(t)
		one.settle(t, a, 500)
		other.settle(t, b, 500)
		if all(a) != all(b) {
			t.Fatal("two runs by one script are unlike")
		}
	}
}
