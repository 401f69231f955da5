package code_test

import (
	"slices"
	"strconv"
	"strings"
	"testing"

	"postbag/api"
)

// P19.2: just MaxCode words, and one more: of instructions, of what becomes several, of a branch that becomes long.
func TestWordsInAll(t *testing.T) {
	for what, l := range map[string][]api.Item{
		"instructions": nil,
		"an address":   joined(address(1, "a"), label("a")),
		"a constant":   joined(constant(1, 1<<63)),
		"labels":       joined(label("a"), label("b")),
		"a jump":       joined(label("a"), jump(1, "a")),
		"a long one":   joined(label("a"), nops(1025), beq("a")),
	} {
		words, _ := made(t, l, 0)
		left := api.MaxCode - len(words)
		if words, _ = made(t, joined(l, nops(left)), 0); len(words) != api.MaxCode {
			t.Errorf("%s: %d words", what, len(words))
		}
		refused(t, what, joined(l, nops(left+1)), 0, api.ErrImage)
		refused(t, what, joined(nops(left+1), l), 0, api.ErrImage)
	}
	refused(t, "constants", slices.Repeat(joined(constant(1, 0x7654321076543210)), api.MaxCode/8+1), 0, api.ErrImage)
	if words, _ := made(t, slices.Repeat(joined(constant(1, 0x7654321076543210)), api.MaxCode/8), 0); len(words) != api.MaxCode {
		t.Error(len(words))
	}
}

// P19.2: there is no code in which a jump, or a long branch's, does not reach its label.
func TestJumpsReach(t *testing.T) {
	over := nops(api.MaxCode - 1)
	words, _ := made(t, joined(jump(1, "z"), over, label("z")), 1<<30)
	if s := text(t, words[:1]); s != "jal x1 262144" {
		t.Error(s)
	}
	words, _ = made(t, joined(label("a"), over, jump(1, "a")), 1<<30)
	if s := text(t, words[len(over):]); s != "jal x1 -262140" {
		t.Error(s)
	}
	words, _ = made(t, joined(beq("z"), over[1:], label("z")), 1<<30)
	if s := text(t, words[:2]); s != "bne x1 x2 8 / jal x0 262140" {
		t.Error(s)
	}
	words, _ = made(t, joined(label("a"), over[1:], beq("a")), 1<<30)
	if s := text(t, words[len(over)-1:]); s != "bne x1 x2 8 / jal x0 -262140" {
		t.Error(s)
	}
	refused(t, "one more", joined(jump(1, "z"), over, nop(), label("z")), 0, api.ErrImage)
}

// P19.2: branches just within their reach, and one beyond, to both sides; each of the six turned.
func TestReach(t *testing.T) {
	names := []string{"beq", "bne", "blt", "bge", "bltu", "bgeu"}
	for n, op := range branches() {
		short, long := names[n]+" x1 x2 ", names[n^1]+" x1 x2 8 / jal x0 "
		for _, c := range []struct {
			l    []api.Item
			at   int
			want string
		}{
			{joined(branch(op, "z"), nops(1022), label("z")), 0, short + "4092"},
			{joined(branch(op, "z"), nops(1023), label("z")), 0, long + "4096"},
			{joined(branch(op, "z"), nops(1024), label("z")), 0, long + "4100"},
			{joined(label("a"), nops(1024), branch(op, "a")), 1024, short + "-4096"},
			{joined(label("a"), nops(1025), branch(op, "a")), 1025, long + "-4104"},
			{joined(label("a"), nops(1026), branch(op, "a")), 1026, long + "-4108"},
			{joined(label("a"), branch(op, "a")), 0, short + "0"},
			{joined(branch(op, "z"), label("z")), 0, short + "4"},
		} {
			words, _ := made(t, c.l, 64)
			n := 1
			if len(c.want) > 20 {
				n = 2
			}
			if s := text(t, words[c.at:c.at+n]); s != c.want {
				t.Errorf("%q, not %q", s, c.want)
			}
		}
	}
}

// marked are items with a label ahead of each branch and one behind it.
func marked(l []api.Item) []api.Item {
	var m []api.Item
	for n, i := range l {
		if i.Kind == api.ItemBranch {
			m = append(m, label("ahead "+strconv.Itoa(n)), i, label("behind "+strconv.Itoa(n)))
		} else {
			m = append(m, i)
		}
	}
	return m
}

// stands is where each label stands.
func stands(l []api.Label) map[string]uint64 {
	m := map[string]uint64{}
	for _, x := range l {
		m[x.Name] = x.At
	}
	return m
}

// lengths has a letter for each branch: s, if it is short, and l, if it is long.
func lengths(t *testing.T, l []api.Item) string {
	t.Helper()
	_, labels := made(t, marked(l), 0)
	at, s := stands(labels), ""
	for n, i := range l {
		if i.Kind != api.ItemBranch {
			continue
		}
		switch at["behind "+strconv.Itoa(n)] - at["ahead "+strconv.Itoa(n)] {
		case 4:
			s += "s"
		case 8:
			s += "l"
		default:
			s += "?"
		}
	}
	return s
}

// far are branches that are long whatever else is: one to each side.
func far() (forth, back api.Item) { return beq("last"), beq("first") }

// between are items with labels first and last, far from all of them.
func between(parts ...any) []api.Item {
	return joined(label("first"), nops(1100), joined(parts...), nops(1100), label("last"))
}

// P19.2: a branch becomes long because another one did, if that stands between it and its label.
func TestOneMakesAnotherLong(t *testing.T) {
	forth, back := far()
	for _, c := range []struct {
		what string
		l    []api.Item
		want string
	}{
		{"just in reach", joined(beq("z"), forth, nops(1021), label("z")), "ll"},
		{"one less", joined(beq("z"), forth, nops(1020), label("z")), "sl"},
		{"one that goes back", joined(beq("z"), nops(1021), back, label("z")), "ll"},
		{"one less, going back", joined(beq("z"), nops(1020), back, label("z")), "sl"},
		{"two, and room for one", joined(beq("z"), forth, nops(1019), back, label("z")), "lll"},
		{"two, and room for both", joined(beq("z"), forth, nops(1018), back, label("z")), "sll"},
		{"behind the label", joined(beq("z"), nops(1022), label("z"), forth), "sl"},
		{"behind all", joined(beq("z"), nops(1022), label("z"), nop(), forth), "sl"},
		{"ahead of it", joined(forth, beq("z"), nops(1022), label("z")), "ls"},
		{"back, just in reach", joined(label("a"), nops(1023), forth, beq("a")), "ll"},
		{"back, one less", joined(label("a"), nops(1022), forth, beq("a")), "ls"},
		{"back, the label's own", joined(label("a"), back, nops(1023), beq("a")), "ll"},
		{"back, the label's own, one less", joined(label("a"), back, nops(1022), beq("a")), "ls"},
		{"back, ahead of the label", joined(back, label("a"), nops(1024), beq("a")), "ls"},
		{"back, behind it", joined(label("a"), nops(1024), beq("a"), forth), "sl"},
		{"of two labels at one place", joined(beq("z"), forth, nops(1020), label("y"), label("z"), nop(), label("x"), beq("y")), "sls"},
		{"three in a row", joined(beq("x"), beq("y"), forth, nops(1020), label("x"), nop(), label("y")), "lll"},
		{"three, but one in between with room", joined(beq("x"), beq("y"), forth, nops(1018), label("x"), label("y")), "ssl"},
		{"both ways", joined(label("a"), beq("z"), nops(1000), forth, nops(20), label("z"), nops(1), beq("a")), "sls"},
		{"one back for one forth", joined(label("a"), nop(), beq("z"), nops(1021), forth, label("z"), beq("a")), "lll"},
		{"constants between", joined(beq("z"), slices.Repeat(joined(constant(1, 1<<63)), 255), nop(), label("z"), nop(), forth), "sl"},
		{"constants between, beyond", joined(beq("z"), slices.Repeat(joined(constant(1, 1<<63)), 255), nops(3), label("z"), nop(), forth), "ll"},
	} {
		l := between(c.l)
		if s := lengths(t, l); s != c.want {
			t.Errorf("%s: %s, not %s", c.what, s, c.want)
		}
		words, labels := made(t, l, 4)
		want, stand, _ := plainAssemble(t, l, 4)
		if !slices.Equal(words, want) || !slices.Equal(labels, stand) {
			t.Errorf("%s: %d words, not %d", c.what, len(words), len(want))
		}
	}
}

// P19.2: so, too, if as many branches stand between as there may be.
func TestOneMakesAnotherLongFromAfar(t *testing.T) {
	forth, back := far()
	crowd := func(n int) []api.Item { return slices.Repeat(joined(beq("here")), n) }
	for _, c := range []struct {
		l    []api.Item
		want string
	}{
		{joined(beq("z"), crowd(500), label("here"), crowd(521), forth, label("z")), "l" + strings.Repeat("s", 1021) + "l"},
		{joined(beq("z"), crowd(500), label("here"), crowd(520), forth, label("z")), strings.Repeat("s", 1021) + "l"},
		{joined(label("a"), back, crowd(500), label("here"), crowd(523), beq("a")), "l" + strings.Repeat("s", 1023) + "l"},
		{joined(label("a"), back, crowd(500), label("here"), crowd(522), beq("a")), "l" + strings.Repeat("s", 1023)},
	} {
		if s := lengths(t, between(c.l)); s != c.want {
			t.Errorf("%s\nnot\n%s", s, c.want)
		}
	}
}

// chain is branches with so much space between them, the labels of which stand just so far that each one but the last
// is out of reach when all that stand behind it are long, and not ahead of that. Turned, sum is that of branches back.
func chain(n, space, sum int) []api.Item {
	last := space * (n - 1)
	labels := map[int][]api.Item{}
	for k := range n {
		at, long := space*k, 0
		to := at + 1
		for ; to-at+long < sum; to++ {
			if to <= last && to%space == 0 {
				long++
			}
		}
		labels[to] = append(labels[to], label(strconv.Itoa(k)))
	}
	var l []api.Item
	for at := range last + sum + 1 {
		l = append(l, labels[at]...)
		if at <= last && at%space == 0 {
			l = append(l, beq(strconv.Itoa(at/space)))
		} else {
			l = append(l, nop())
		}
	}
	return l
}

// P19.2: branches that become long one behind the other, each for the one that became it just now.
func TestChains(t *testing.T) {
	back, still := chain(60, 3, 1026), chain(60, 3, 1025)
	slices.Reverse(back)
	slices.Reverse(still)
	for _, c := range []struct {
		l     []api.Item
		times int
	}{
		{chain(60, 2, 1024), 60}, {back, 60}, {chain(60, 600, 1024), 60}, {chain(60, 2, 1023), 0}, {still, 0},
	} {
		want, labels, times := plainAssemble(t, c.l, 0)
		if times != c.times {
			t.Errorf("branches became long %d times, not %d", times, c.times)
		}
		words, stand := made(t, c.l, 0)
		if !slices.Equal(words, want) || !slices.Equal(stand, labels) {
			t.Errorf("%d words, not %d", len(words), len(want))
		}
	}
	long := chain(20000, 2, 1024)
	// There are as many labels, which are no words, as branches that are of one word more.
	if words, labels := made(t, long, 0); len(words) != len(long) || len(labels) != 20000 {
		t.Errorf("%d words of %d items, %d labels", len(words), len(long), len(labels))
	}
}

// P19.2: thrown items, held against a plain second telling.
func TestAssemblePlainly(t *testing.T) {
	r := row(5)
	several := 0
	for n := range 300 {
		l := r.source(one(&r, 5, 40, 1200, 1500), one(&r, 1, 3, 30, 200))
		base := 4 * uint64(one(&r, 0, 1, 511, r.next(1<<28), 1<<28))
		words, labels := made(t, l, base)
		want, stand, times := plainAssemble(t, l, base)
		if !slices.Equal(words, want) || !slices.Equal(labels, stand) {
			t.Fatalf("%d: %d words, not %d", n, len(words), len(want))
		}
		if times > 2 {
			several++
		}
	}
	if several < 30 {
		t.Errorf("but %d in which branches became long more than twice", several)
	}
}
