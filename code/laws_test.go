package code_test

import (
	"math"
	"slices"
	"strconv"
	"testing"

	"postbag/api"
	"postbag/hart"
	"postbag/memory"
)

// loaded is a memory with words in it.
func loaded(t *testing.T, words []uint32, base uint64) *memory.Memory {
	t.Helper()
	m := memory.New(int(base) + 4*len(words))
	for n, w := range words {
		if e := m.Store(base+4*uint64(n), 4, uint64(w)); e != api.OK {
			t.Fatal(int(e))
		}
	}
	return m
}

// taken tells plainly whether a branch is taken.
func taken(op int, a, b uint64) bool {
	switch op {
	case api.OpBeq:
		return a == b
	case api.OpBne:
		return a != b
	case api.OpBlt:
		return int64(a) < int64(b)
	case api.OpBge:
		return int64(a) >= int64(b)
	case api.OpBltu:
		return a < b
	}
	return a >= b
}

// followed is where a hart is that began at one place, and went on until it is at one of some others.
func followed(h hart.Hart, m *memory.Memory, ends ...uint64) hart.Hart {
	for range 3 {
		next, e := hart.Step(h, m)
		if e != api.OK {
			return hart.Hart{}
		}
		if h = next; slices.Contains(ends, h.PC) {
			break
		}
	}
	return h
}

// P19.4: a branch that is taken goes to its label, and one that is not to what follows; it changes nothing but PC.
func TestBranchesGoToTheirLabels(t *testing.T) {
	for _, op := range branches() {
		for _, n := range []int{0, 1, 1020, 1021, 1022, 1023, 1024, 5000} {
			for _, l := range [][]api.Item{
				joined(nop(), label("at"), branch(op, "to"), label("next"), nops(n), label("to"), nop()),
				joined(nop(), label("to"), nops(n), label("at"), branch(op, "to"), label("next"), nop()),
			} {
				words, labels := made(t, l, 128)
				at, m := stands(labels), loaded(t, words, 128)
				for _, x := range [][2]uint64{{1, 1}, {1, 2}, {2, 1}, {math.MaxUint64, 1}, {1, math.MaxUint64}, {1 << 63, 1<<63 - 1}} {
					h := hart.Hart{PC: at["at"], X: [32]uint64{1: x[0], 2: x[1], 5: 77}, Held: true}
					want := h
					want.PC = at["next"]
					if taken(op, x[0], x[1]) {
						want.PC = at["to"]
					}
					if got := followed(h, m, at["to"], at["next"]); got != want {
						t.Fatalf("operation %d over %d, of %d and %d: at %d, not at %d", op, n, x[0], x[1], got.PC, want.PC)
					}
				}
			}
		}
	}
}

// P19.4: in thrown code, too; a jump keeps where it came from, and an address is its label's.
func TestNamesLeadToTheirLabels(t *testing.T) {
	r, seen := row(8), map[int]int{}
	for range 40 {
		l := r.source(one(&r, 30, 1300), one(&r, 2, 40))
		var tagged []api.Item
		for n, i := range l {
			tagged = append(tagged, label("at "+strconv.Itoa(n)), i)
		}
		tagged = append(tagged, label("at "+strconv.Itoa(len(l))), nop())
		words, labels := made(t, tagged, 64)
		at, m := stands(labels), loaded(t, words, 64)
		for n, i := range l {
			from, next, to := at["at "+strconv.Itoa(n)], at["at "+strconv.Itoa(n+1)], at[i.Name]
			h := hart.Hart{PC: from, X: [32]uint64{1: r.number(), 2: r.number()}}
			want := h
			seen[i.Kind]++
			switch want.PC = next; i.Kind {
			case api.ItemBranch:
				if taken(i.Inst.Op, h.X[1], h.X[2]) {
					want.PC = to
				}
			case api.ItemJump:
				want.PC, want.X[i.Inst.Rd] = to, next
			case api.ItemAddr:
				want.X[i.Inst.Rd] = to
			default:
				continue
			}
			want.X[0] = 0
			if got := followed(h, m, to, next); got != want {
				t.Fatalf("%+v at %d: %+v, not %+v", i, from, got, want)
			}
		}
	}
	if seen[api.ItemBranch] < 5000 || seen[api.ItemJump] < 1000 || seen[api.ItemAddr] < 1000 {
		t.Error(seen)
	}
}

// P19.5: code without names is that of its parts, wherever these stand.
func TestCodeIsThatOfItsParts(t *testing.T) {
	r := row(6)
	for range 300 {
		var l []api.Item
		for range r.next(60) {
			l = append(l, r.unnamed())
		}
		whole, _ := made(t, l, 4*uint64(r.next(1<<28)))
		var parts []uint32
		for len(l) > 0 {
			n := 1 + r.next(len(l))
			words, labels := made(t, l[:n], 4*uint64(r.next(1<<28)))
			if len(labels) != 0 {
				t.Error(labels)
			}
			parts, l = append(parts, words...), l[n:]
		}
		if !slices.Equal(parts, whole) {
			t.Fatalf("%s\nnot\n%s", text(t, parts), text(t, whole))
		}
	}
}
