package machine_test

import (
	"fmt"
	"slices"
	"testing"

	"postbag/api"
	"postbag/inst"
	"postbag/listing"
	"postbag/machine"
	"postbag/memory"
)

const (
	room    = 2048 // bytes of the tests' memories
	between = 256  // from one hart's code to the next one's
	data    = 1024 // where the tests load and store
)

// code tells lines as one hart's code.
func code(lines ...string) string {
	s := ""
	for _, l := range lines {
		s += l + "\n"
	}
	return s
}

// bytesOf tells a memory with the code of each hart.
func bytesOf(t testing.TB, codes ...string) *memory.Memory {
	t.Helper()
	m := memory.New(room)
	for h, text := range codes {
		l, n, e := listing.Read(text)
		if e != api.OK {
			t.Fatalf("hart %d: line %d of %q is no instruction's", h, n, text)
		}
		for k, i := range l {
			w, _ := inst.Encode(i)
			if e := m.Store(uint64(between*h+4*k), 4, uint64(w)); e != api.OK {
				t.Fatal(int(e))
			}
		}
	}
	return m
}

// started tells a machine on a memory, each hart at its code.
func started(t testing.TB, m *memory.Memory, harts int) *machine.Machine {
	t.Helper()
	pcs := make([]uint64, harts)
	for h := range pcs {
		pcs[h] = uint64(between * h)
	}
	n, e := machine.New(m, pcs)
	if e != api.OK || n == nil {
		t.Fatalf("no machine: %d", int(e))
	}
	return n
}

// laid tells a machine with the code of each hart.
func laid(t testing.TB, codes ...string) *machine.Machine {
	t.Helper()
	return started(t, bytesOf(t, codes...), len(codes))
}

func issue(h int) machine.Choice {
	return machine.Choice{Hart: h, Kind: machine.Issue}
}

func perform(h, n int) machine.Choice {
	return machine.Choice{Hart: h, Kind: machine.Perform, N: n}
}

func fail(h, n int) machine.Choice {
	return machine.Choice{Hart: h, Kind: machine.Fail, N: n}
}

// do does choices that have no error.
func do(t testing.TB, m *machine.Machine, l ...machine.Choice) {
	t.Helper()
	for k, c := range l {
		if e := m.Choose(c); e != api.OK {
			t.Fatalf("choice %d, %+v: error %d", k, c, int(e))
		}
	}
}

// issues issues so many instructions of a hart.
func issues(t testing.TB, m *machine.Machine, h, n int) {
	t.Helper()
	for range n {
		do(t, m, issue(h))
		if e := m.Stopped(h); e != api.OK {
			t.Fatalf("hart %d stopped at %x: %d", h, m.PC(h), int(e))
		}
	}
}

// refuses tells that a choice has this error, and changes nothing.
func refuses(t testing.TB, m *machine.Machine, c machine.Choice, want api.Errno) {
	t.Helper()
	was := all(m)
	if e := m.Choose(c); e != want {
		t.Errorf("%+v: error %d, not %d", c, int(e), int(want))
	}
	if now := all(m); now != was {
		t.Errorf("%+v has an error, and changed\n%s\nto\n%s", c, was, now)
	}
	if slices.Contains(m.Choices(), c) {
		t.Errorf("%+v has an error, and is among the choices", c)
	}
}

// has tells that a register has this.
func has(t testing.TB, m *machine.Machine, h, r int, want uint64) {
	t.Helper()
	if v, ok := m.X(h, r); !ok || v != want {
		t.Errorf("hart %d: register %d has %x, %t, not %x", h, r, v, ok, want)
	}
}

// lacks tells that a register is missing.
func lacks(t testing.TB, m *machine.Machine, h, r int) {
	t.Helper()
	if v, ok := m.X(h, r); ok || v != 0 {
		t.Errorf("hart %d: register %d has %x, %t, and is to be missing", h, r, v, ok)
	}
}

// word tells eight bytes of the memory.
func word(t testing.TB, m *machine.Machine, at uint64) uint64 {
	t.Helper()
	b, e := m.Bytes(at, 8)
	if e != api.OK {
		t.Fatalf("bytes at %x: %d", at, int(e))
	}
	v := uint64(0)
	for k, x := range b {
		v |= uint64(x) << (8 * k)
	}
	return v
}

// operation tells a hart's operation of this place in program order.
func operation(t testing.TB, m *machine.Machine, h, k int) api.Op {
	t.Helper()
	l, _ := m.Trace()
	if h >= len(l) || k >= len(l[h]) {
		t.Fatalf("no operation %d of hart %d: %+v", k, h, l)
	}
	return l[h][k]
}

// all tells all that can be asked of a machine.
func all(m *machine.Machine) string {
	s := ""
	say := func(x ...any) { s += fmt.Sprintln(x...) }
	for h := range m.Harts() {
		say(m.PC(h), m.Open(h), m.Issued(h), int(m.Stopped(h)))
		for r := range 32 {
			v, ok := m.X(h, r)
			say(v, ok)
		}
	}
	l, gmo := m.Trace()
	op, n := m.Last()
	b, e := m.Bytes(0, room)
	say(fmt.Sprintf("%+v %+v", l, op), gmo, n, m.Events(), m.Choices(), b, e)
	return s
}

// row tells numbers below n, one behind the other, alike each time.
type row uint64

func (r *row) next(n int) int {
	*r = *r*6364136223846793005 + 1442695040888963407
	return int(uint64(*r) >> 33 % uint64(n))
}

// one tells one of these.
func one[T any](r *row, l ...T) T {
	return l[r.next(len(l))]
}
