package mailbox_test

import (
	"slices"
	"testing"

	"postbag/api"
	"postbag/bench"
	"postbag/code"
	"postbag/image"
	"postbag/inst"
	"postbag/mailbox"
	"postbag/memory"
)

// words are all words from records to logs.
func words(t *testing.T, m *memory.Memory) map[uint64]uint64 {
	t.Helper()
	l := map[uint64]uint64{}
	for at := uint64(records); at < logs; at += 8 {
		l[at] = load(t, m, at)
	}
	return l
}

// changed tells it where words that are not among some are other ones.
func changed(t *testing.T, m *memory.Memory, was map[uint64]uint64, may ...uint64) {
	t.Helper()
	for at, v := range words(t, m) {
		if v != was[at] && !slices.Contains(may, at) {
			t.Fatalf("at %d: %x, not %x any more", at, v, was[at])
		}
	}
}

// P21.1: whatever stood in a record, its queue is empty; nothing else is changed.
func TestInit(t *testing.T) {
	r := bench.Row(1)
	for n := range 20 {
		m := littered(t, &r)
		was := words(t, m)
		at := record(n)
		made(t, m, at)
		stub := word(at, image.WStub)
		changed(t, m, was, word(at, image.WTail), word(at, image.WHead), stub)
		if tail, head, next := load(t, m, word(at, image.WTail)), load(t, m, word(at, image.WHead)), load(t, m, stub); tail != stub || head != stub || next != 0 {
			t.Fatalf("tail %d, head %d, behind the stub %d", tail, head, next)
		}
		was = words(t, m)
		if b := popped(t, m, at); b != 0 {
			t.Fatalf("%d was popped", b)
		}
		changed(t, m, was)
	}
}

// P21.1: also one in which blocks stood.
func TestInitAgain(t *testing.T) {
	r := bench.Row(2)
	for before := range 4 {
		for pops := range before + 1 {
			m := begun(t, &r, 1)
			for n := range before {
				pushed(t, m, record(0), block(n))
			}
			for range pops {
				popped(t, m, record(0))
			}
			made(t, m, record(0))
			pushed(t, m, record(0), block(7))
			if a, b := popped(t, m, record(0)), popped(t, m, record(0)); a != block(7) || b != 0 {
				t.Errorf("%d and %d were popped", a, b)
			}
		}
	}
}

// P21.2: a block stands last; the one ahead leads to it.
func TestPush(t *testing.T) {
	r := bench.Row(3)
	m := begun(t, &r, 1)
	at := record(0)
	ahead := word(at, image.WStub)
	for n := range 5 {
		was := words(t, m)
		b := block(n)
		pushed(t, m, at, b)
		changed(t, m, was, word(at, image.WTail), word(b, image.BNext), word(ahead, image.BNext))
		if tail, head := load(t, m, word(at, image.WTail)), load(t, m, word(at, image.WHead)); tail != b || head != word(at, image.WStub) {
			t.Errorf("block %d: tail %d, head %d", n, tail, head)
		}
		if a, b := load(t, m, word(ahead, image.BNext)), load(t, m, word(b, image.BNext)); a != block(n) || b != 0 {
			t.Errorf("block %d: %d is behind the one ahead, %d behind it", n, a, b)
		}
		ahead = b
	}
}

// P21.3: blocks are popped as they were pushed, one hart doing both, however it does.
func TestPlainQueue(t *testing.T) {
	r := bench.Row(4)
	empty := 0
	for range 60 {
		m := begun(t, &r, 1)
		at := record(r.Next(3))
		made(t, m, at)
		var queue []uint64
		free := []int{0, 1, 2, 3, 4, 5}
		for range 60 {
			if len(free) > 0 && r.Next(2) == 0 {
				n := r.Next(len(free))
				b := block(free[n])
				free = slices.Delete(free, n, n+1)
				pushed(t, m, at, b)
				queue = append(queue, b)
				continue
			}
			b := popped(t, m, at)
			if len(queue) == 0 {
				empty++
				if b != 0 {
					t.Fatalf("%d was popped from an empty queue", b)
				}
				continue
			}
			if b != queue[0] {
				t.Fatalf("%d was popped, not %d of %d", b, queue[0], queue)
			}
			queue = queue[1:]
			free = append(free, int(b-blocksAt)/blockSize)
			for k := range image.BlockWords { // it is in the queue no more: what is written into it is nothing to it
				store(t, m, word(b, k), r.Word())
			}
		}
	}
	if empty < 100 {
		t.Errorf("%d pops of an empty queue", empty)
	}
}

// P21.3: one block goes in and out over and over, so that the stub is put behind it each time.
func TestOneBlockOver(t *testing.T) {
	r := bench.Row(5)
	m := begun(t, &r, 1)
	stub := word(record(0), image.WStub)
	for n := range 30 {
		pushed(t, m, record(0), block(1))
		if b := popped(t, m, record(0)); b != block(1) {
			t.Fatalf("%d was popped", b)
		}
		if tail, head := load(t, m, word(record(0), image.WTail)), load(t, m, word(record(0), image.WHead)); tail != stub || head != stub {
			t.Fatalf("tail %d, head %d", tail, head)
		}
		if n%3 == 0 {
			if b := popped(t, m, record(0)); b != 0 {
				t.Fatalf("%d was popped", b)
			}
		}
	}
}

// P21.3: what pop changes are words of the queue, and those by which its blocks are linked.
func TestPopChanges(t *testing.T) {
	r := bench.Row(6)
	for blocks := range 4 {
		m := begun(t, &r, 1)
		at := record(0)
		may := []uint64{word(at, image.WTail), word(at, image.WHead), word(at, image.WStub)}
		for n := range blocks {
			pushed(t, m, at, block(n))
			may = append(may, word(block(n), image.BNext))
		}
		was := words(t, m)
		for range blocks + 1 {
			popped(t, m, at)
			changed(t, m, was, may...)
		}
	}
}

// P21.1, P21.2, P21.3: a routine comes back to where it was called from, and changes those registers alone that it may.
func TestRegisters(t *testing.T) {
	r := bench.Row(7)
	may := []int{1, 5, 6, 7, 10, 11, 12, 13, 14, 15, 16, 17, 28, 29, 30, 31}
	for range 40 {
		m := begun(t, &r, 1)
		for _, routine := range []string{"pop", "push", "pop", "push", "push", "pop", "pop", "pop", "mailbox.init", "pop"} {
			var x [32]uint64
			for k := 1; k < 32; k++ {
				x[k] = r.Word()
			}
			x[10], x[11] = record(0), block(r.Next(20))
			for load(t, m, word(record(0), image.WTail)) == x[11] {
				x[11] = block(r.Next(20))
			}
			now := called(t, m, routine, x)
			for k := range now {
				if now[k] != x[k] && !slices.Contains(may, k) {
					t.Errorf("%s: register %d has %x, not %x any more", routine, k, now[k], x[k])
				}
			}
		}
	}
}

// Words: a routine begins with the label of its name; its others begin with that and a dot; it names no others, and it is of instructions that may be.
func TestLabels(t *testing.T) {
	for name, l := range map[string][]api.Item{"mailbox.init": mailbox.Init(), "push": mailbox.Push(), "pop": mailbox.Pop()} {
		if len(l) == 0 || l[0] != (api.Item{Kind: api.ItemLabel, Name: name}) {
			t.Fatalf("%s begins with %+v", name, l[:min(1, len(l))])
		}
		for _, i := range l[1:] {
			if i.Name != "" && (len(i.Name) <= len(name)+1 || i.Name[:len(name)+1] != name+".") {
				t.Errorf("%s has %+v", name, i)
			}
			if i.Kind == api.ItemInst && !inst.Good(i.Inst) {
				t.Errorf("%s has %+v", name, i)
			}
		}
		if _, _, e := code.Assemble(l, 0); e != api.OK {
			t.Errorf("%s alone: error %d", name, int(e))
		}
	}
	if _, _, e := code.Assemble(routines(), 4); e != api.OK {
		t.Errorf("all together: error %d", int(e))
	}
}

// What is handed out is the asker's own.
func TestOwn(t *testing.T) {
	for _, of := range []func() []api.Item{mailbox.Init, mailbox.Push, mailbox.Pop} {
		l := of()
		want := slices.Clone(l)
		clear(l)
		if !slices.Equal(of(), want) {
			t.Error("what was told ahead of it was written into, and it is another one")
		}
	}
}
