package machine_test

import (
	"strconv"
	"testing"

	"postbag/api"
)

// ways is what two operations of a hart do, and whether the first one, while it
// is open, stands in the second one's way. Register 5 has 1024, register 6 1032.
type ways struct {
	a, b  string
	waits bool
}

// stand asks what stands in whose way.
func stand(t *testing.T, l []ways) {
	t.Helper()
	for _, c := range l {
		standsBehind(t, c.waits, c.a, c.b)
	}
}

// standsBehind asks whether the first one of these operations stands in the
// last one's way, all but the last one being fences, or performed ahead.
func standsBehind(t *testing.T, waits bool, lines ...string) {
	t.Helper()
	m := laid(t, code(append([]string{"addi x5 x0 1024", "addi x6 x0 1032"}, lines...)...))
	issues(t, m, 0, len(lines)+2)
	last := m.Open(0) - 1
	if !waits {
		do(t, m, perform(0, last))
		return
	}
	refuses(t, m, perform(0, last), api.ErrWait)
	do(t, m, perform(0, 0))
	do(t, m, perform(0, m.Open(0)-1))
}

// Rule 1: the second one stores, and both overlap.
func TestRule1(t *testing.T) {
	stand(t, []ways{
		{"ld x7 x0 1024", "sd x0 x0 1024", true},
		{"ld x7 x0 1024", "sb x0 x0 1031", true},
		{"ld x7 x0 1024", "sd x0 x0 1032", false},
		{"lbu x7 x0 1031", "sd x0 x0 1024", true},
		{"lbu x7 x0 1031", "sw x0 x0 1024", false},
		{"sd x0 x0 1024", "sw x0 x0 1028", true},
		{"sw x0 x0 1028", "sw x0 x0 1024", false},
		{"sd x0 x0 1024", "amoadd.d x7 x5 x0", true},
		{"sd x0 x0 1032", "amoadd.d x7 x5 x0", false},
		{"sb x0 x0 1031", "amoadd.d x7 x5 x0", true},
		{"sd x0 x0 1024", "sc.d x7 x5 x0", true},
		{"sw x0 x0 1028", "sc.w x7 x5 x0", false},
		{"ld x8 x0 1024", "amoadd.d x7 x5 x0", true},
		{"amoadd.d x8 x5 x0", "sd x0 x0 1024", true},
		{"amoadd.d x8 x5 x0", "sd x0 x0 1032", false},
		{"sc.d x8 x5 x0", "sd x0 x0 1024", true},
		{"sc.d x8 x5 x0", "sd x0 x0 1032", false},
	})
}

// Both overlap, and both load; or the first one is an amo or an sc.
func TestOverlaps(t *testing.T) {
	stand(t, []ways{
		{"ld x7 x0 1024", "ld x8 x0 1024", true},
		{"ld x7 x0 1024", "lb x8 x0 1031", true},
		{"lb x7 x0 1031", "ld x8 x0 1024", true},
		{"lb x7 x0 1031", "lw x8 x0 1024", false},
		{"ld x7 x0 1024", "ld x8 x0 1032", false},
		{"ld x7 x0 1024", "lr.d x8 x5", true},
		{"lr.d x7 x5", "ld x8 x0 1024", true},
		{"lr.d x7 x5", "ld x8 x0 1032", false},
		{"lr.d x7 x5", "lr.w x8 x5", true},
		{"amoadd.d x7 x5 x0", "lw x8 x0 1028", true},
		{"amoadd.w x7 x5 x0", "lw x8 x0 1028", false},
		{"amoadd.d x7 x5 x0", "lr.d x8 x5", true},
		{"amoadd.d x7 x5 x0", "lr.d x8 x6", false},
		{"sc.d x7 x5 x0", "lw x8 x0 1028", true},
		{"sc.w x7 x5 x0", "lw x8 x0 1028", false},
		{"sc.d x7 x5 x0", "ld x8 x0 1032", false},
		// a plain store does not: what it stores is loaded
		{"sd x0 x0 1024", "ld x8 x0 1024", false},
		{"sd x0 x0 1024", "lr.d x8 x5", false},
		{"sb x0 x0 1031", "ld x8 x0 1024", false},
	})
}

// Rule 4: a fence between them, of each kind.
func TestRule4(t *testing.T) {
	const writes, reads = 1, 2
	for _, a := range []struct {
		line string
		does int
	}{{"ld x7 x0 1024", reads}, {"sd x0 x0 1024", writes}, {"amoadd.d x7 x5 x0", reads | writes}, {"lr.d x7 x5", reads}, {"sc.d x7 x5 x0", writes}} {
		for _, b := range []struct {
			line string
			does int
		}{{"ld x8 x0 1032", reads}, {"sd x0 x0 1032", writes}, {"amoadd.d x8 x6 x0", reads | writes}, {"lr.d x8 x6", reads}} {
			for v := range 256 {
				waits := v>>4&a.does != 0 && v&b.does != 0
				standsBehind(t, waits, a.line, "fence "+strconv.Itoa(v), b.line)
			}
			standsBehind(t, false, a.line, b.line)
		}
	}
	// two fences, each of one half, are none of both; one of two is enough
	standsBehind(t, false, "sd x0 x0 1024", "fence 16", "fence 2", "ld x8 x0 1032")
	standsBehind(t, true, "sd x0 x0 1024", "fence 0", "fence 18", "fence 33", "ld x8 x0 1032")
}

// Rule 4: a fence ahead of both stands in nobody's way, nor does one behind both.
func TestFencesBeside(t *testing.T) {
	m := laid(t, code("sd x0 x0 1040", "fence 51", "sd x0 x0 1024", "ld x7 x0 1032", "fence 51"))
	issues(t, m, 0, 5)
	refuses(t, m, perform(0, 3), api.ErrWait) // the first store is in its way
	do(t, m, perform(0, 0), perform(0, 1))
	if m.Open(0) != 2 {
		t.Errorf("%d are open", m.Open(0))
	}
}

// Rules 5 to 7: acquire and release.
func TestRules5To7(t *testing.T) {
	for _, a := range []string{"amoadd.d", "lr.d", "sc.d"} {
		for _, b := range []string{"amoadd.d", "lr.d", "sc.d"} {
			for _, x := range []struct {
				a, b  string
				waits bool
			}{
				{"", "", false}, {"", ".aq", false}, {"", ".rl", true}, {"", ".aqrl", true},
				{".aq", "", true}, {".aq", ".aq", true}, {".aq", ".rl", true}, {".aq", ".aqrl", true},
				{".rl", "", false}, {".rl", ".aq", true}, {".rl", ".rl", true}, {".rl", ".aqrl", true},
				{".aqrl", "", true}, {".aqrl", ".aq", true}, {".aqrl", ".rl", true}, {".aqrl", ".aqrl", true},
			} {
				waits := x.waits || a == "lr.d" && b == "sc.d" // rule 8
				standsBehind(t, waits, atomic(a, x.a, 7, 5), atomic(b, x.b, 8, 6))
			}
		}
		stand(t, []ways{
			{atomic(a, "", 7, 5), "ld x8 x0 1032", false}, {atomic(a, ".aq", 7, 5), "ld x8 x0 1032", true},
			{atomic(a, ".rl", 7, 5), "ld x8 x0 1032", false}, {atomic(a, ".rl", 7, 5), "sd x0 x0 1032", false},
			{atomic(a, ".aq", 7, 5), "sd x0 x0 1032", true},
			{"ld x8 x0 1032", atomic(a, "", 7, 5), false}, {"ld x8 x0 1032", atomic(a, ".aq", 7, 5), false},
			{"ld x8 x0 1032", atomic(a, ".rl", 7, 5), true}, {"sd x0 x0 1032", atomic(a, ".rl", 7, 5), true},
			{"sd x0 x0 1032", atomic(a, ".aq", 7, 5), false},
		})
	}
}

// atomic tells a line of an atomic operation.
func atomic(name, order string, rd, rs1 int) string {
	s := name + order + " x" + strconv.Itoa(rd) + " x" + strconv.Itoa(rs1)
	if name == "lr.d" {
		return s
	}
	return s + " x0"
}

// Rule 8: an sc is behind its lr, wherever that one loads; not behind one that is not its Pair.
func TestRule8(t *testing.T) {
	stand(t, []ways{
		{"lr.d x7 x5", "sc.d x8 x5 x0", true}, // rule 1, too
		{"lr.d x7 x5", "sc.d x8 x6 x0", true},
		{"lr.d x7 x5", "sc.w x8 x6 x0", true},
		{"ld x7 x0 1024", "sc.d x8 x6 x0", false},
		{"amoadd.d x7 x5 x0", "sc.d x8 x6 x0", false},
	})
	standsBehind(t, true, "lr.d x7 x5", "fence 0", "sc.d x8 x6 x0")
	m := laid(t, code("addi x5 x0 1024", "addi x6 x0 1032", "addi x7 x0 1040",
		"lr.d x11 x5", "lr.d x12 x6", "sc.d x13 x7 x0", "sc.d x14 x7 x0"))
	issues(t, m, 0, 7)
	refuses(t, m, perform(0, 2), api.ErrWait) // its Pair is the second lr
	do(t, m, perform(0, 1))
	do(t, m, perform(0, 1)) // the first lr is not in its way
	do(t, m, perform(0, 1)) // nor in that of the other sc, which has none
	has(t, m, 0, 13, 1)
	has(t, m, 0, 14, 1)
}

// Example 1: both loads perform ahead of both stores.
func TestExample(t *testing.T) {
	m := laid(t, code("sd x0 x10 1024", "ld x5 x0 1032"), code("sd x0 x10 1032", "ld x5 x0 1024"))
	issues(t, m, 0, 2)
	issues(t, m, 1, 2)
	do(t, m, perform(0, 1), perform(1, 1), perform(0, 0), perform(1, 0))
	has(t, m, 0, 5, 0)
	has(t, m, 1, 5, 0)
	if word(t, m, 1032) != 1 {
		t.Error("a store is missing")
	}
}
