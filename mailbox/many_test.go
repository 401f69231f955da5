package mailbox_test

import (
	"slices"
	"testing"

	"postbag/api"
	"postbag/bench"
	"postbag/image"
	"postbag/items"
	"postbag/machine"
)

// A plan is which blocks each hart pushes to the queue in the first record, and what it writes into them.
type plan struct {
	pushes [][]met
	blocks int
}

// planned tells a plan of harts that push up to so many blocks each; the first ones push none.
func planned(r *bench.Row, pops, harts, most int) plan {
	p := plan{pushes: make([][]met, harts)}
	for h := pops; h < harts; h++ {
		for range 1 + r.Next(most) {
			p.pushes[h] = append(p.pushes[h], met{block(p.blocks), r.Word(), r.Word()})
			p.blocks++
		}
	}
	return p
}

// pusher is a hart's code that pushes all of its blocks.
func (p plan) pusher(h int) []api.Item {
	w := items.Begin(name(h))
	for _, x := range p.pushes[h] {
		push(w, record(0), x.block, x.a, x.b)
	}
	return stop(w)
}

// parts are all harts' code, hart 0 popping all that the others push.
func (p plan) parts() [][]api.Item {
	w := items.Begin(name(0))
	popper(w, 0, record(0), p.blocks)
	l := [][]api.Item{stop(w)}
	for h := 1; h < len(p.pushes); h++ {
		l = append(l, p.pusher(h))
	}
	return l
}

// holds holds what was popped against what was pushed: each block once, as it was written, and those of each hart in order.
func (p plan) holds(t testing.TB, l []met) {
	t.Helper()
	rest := make([][]met, len(p.pushes))
	copy(rest, p.pushes)
	for _, x := range l {
		h := slices.IndexFunc(rest, func(of []met) bool { return len(of) > 0 && of[0].block == x.block })
		if h < 0 {
			t.Fatalf("%d was popped: it is the next one of no hart", x.block)
		}
		if rest[h][0] != x {
			t.Fatalf("popped was %+v, written %+v", x, rest[h][0])
		}
		rest[h] = rest[h][1:]
	}
	for h, of := range rest {
		if len(of) > 0 {
			t.Fatalf("%d blocks of hart %d were not popped", len(of), h)
		}
	}
}

// blocksOf are the blocks that were noted.
func blocksOf(l []met) []uint64 {
	var of []uint64
	for _, x := range l {
		of = append(of, x.block)
	}
	return of
}

// P21.4: one hart pops what one, two, three, four push at a time, by any script: in order, none twice, each as it was written. And P21.2, P21.3: in the order in which they came to stand last.
func TestInOrder(t *testing.T) {
	r := bench.Row(11)
	for harts := 2; harts <= 5; harts++ {
		mixed := 0
		for _, s := range bench.Scripts(&r, 160) {
			p := planned(&r, 1, harts, 4)
			m := begun(t, &r, 1)
			at := lay(t, m, p.parts()...)
			x := started(t, m, at, harts)
			end := played(t, x, s)
			l := logged(t, end, 0, p.blocks)
			p.holds(t, l)
			of := blocksOf(l)
			if order := swaps(x, record(0)); !slices.Equal(of, order) {
				t.Fatalf("popped were %d, pushed %d", of, order)
			}
			if b := popped(t, end, record(0)); b != 0 {
				t.Fatalf("and %d is there still", b)
			}
			if !slices.IsSorted(of) {
				mixed++
			}
		}
		if harts > 2 && mixed < 40 {
			t.Errorf("%d harts: %d times mixed", harts, mixed)
		}
	}
}

// P21.4: the hart that pops pushes too.
func TestPopperPushes(t *testing.T) {
	r := bench.Row(12)
	for _, s := range bench.Scripts(&r, 240) {
		harts := 1 + r.Next(4)
		p := planned(&r, 0, harts, 4)
		parts := [][]api.Item{nil}
		for h := 1; h < harts; h++ {
			parts = append(parts, p.pusher(h))
		}
		w := items.Begin(name(0))
		half := r.Next(len(p.pushes[0]) + 1)
		for _, x := range p.pushes[0][:half] {
			push(w, record(0), x.block, x.a, x.b)
		}
		popper(w, 0, record(0), half)
		w.Copy(was, note)
		for _, x := range p.pushes[0][half:] {
			push(w, record(0), x.block, x.a, x.b)
		}
		popper(w, 1, record(0), p.blocks-half)
		parts[0] = stop(w)
		m := begun(t, &r, 1)
		if half == 0 || half == p.blocks {
			continue // popper pops one at least
		}
		x := started(t, m, lay(t, m, parts...), harts)
		end := played(t, x, s)
		l := slices.Concat(logged(t, end, 0, half), logged(t, end, 1, p.blocks-half))
		p.holds(t, l)
		if order := swaps(x, record(0)); !slices.Equal(blocksOf(l), order) {
			t.Fatalf("popped were %d, pushed %d", blocksOf(l), order)
		}
	}
}

// P21.5: when all that pushed are back, and nothing is open, as many pops, and one with 0, empty it.
func TestAll(t *testing.T) {
	r := bench.Row(13)
	for _, s := range bench.Scripts(&r, 240) {
		harts := 1 + r.Next(4)
		p := planned(&r, 0, harts, 5)
		var parts [][]api.Item
		for h := range harts {
			parts = append(parts, p.pusher(h))
		}
		m := begun(t, &r, 1)
		x := started(t, m, lay(t, m, parts...), harts)
		end := played(t, x, s)
		var l []met
		for range p.blocks {
			b := popped(t, end, record(0))
			if b == 0 {
				t.Fatalf("0 behind %d of %d pops", len(l), p.blocks)
			}
			l = append(l, met{b, load(t, end, word(b, image.BRoot)), load(t, end, word(b, image.BlockWords-1))})
		}
		p.holds(t, l)
		for range 2 {
			if b := popped(t, end, record(0)); b != 0 {
				t.Fatalf("%d is left", b)
			}
		}
		pushed(t, end, record(0), block(40))
		if b := popped(t, end, record(0)); b != block(40) {
			t.Fatalf("%d was popped behind that", b)
		}
	}
}

// The chapter's example 1, and both of its ends are met.
func TestTwoPush(t *testing.T) {
	r := bench.Row(14)
	first := [2]int{}
	for _, s := range bench.Scripts(&r, 80) {
		p := plan{pushes: [][]met{nil, {{block(0), 1, 2}}, {{block(1), 3, 4}}}, blocks: 2}
		m := begun(t, &r, 1)
		x := started(t, m, lay(t, m, p.parts()...), 3)
		end := played(t, x, s)
		l := logged(t, end, 0, 2)
		p.holds(t, l)
		first[(l[0].block-blocksAt)/blockSize]++
		if b := popped(t, end, record(0)); b != 0 {
			t.Fatalf("then %d", b)
		}
	}
	if min(first[0], first[1]) < 10 {
		t.Errorf("first are A and B %d times", first)
	}
}

// P21.2, P21.3: two queues side by side know nothing of each other.
func TestSideBySide(t *testing.T) {
	r := bench.Row(15)
	for _, s := range bench.Scripts(&r, 160) {
		m := begun(t, &r, 3)
		beside := []uint64{word(record(0), image.WTail-1), word(record(0), image.WStub+1), word(record(1), image.WTail-1), word(record(1), image.WStub+1)}
		var before []uint64
		for _, at := range beside {
			before = append(before, load(t, m, at))
		}
		var parts [][]api.Item
		for h := range 2 { // each pops one queue, and then pushes what it got into the third one
			w := items.Begin(name(h))
			popper(w, h, record(h), 4)
			parts = append(parts, stop(w))
		}
		to := [2][][]met{{nil, nil}, {nil, nil}}
		n := 0
		for h := 2; h < 4; h++ {
			w := items.Begin(name(h))
			left := [2]int{2, 2}
			for left != [2]int{} {
				q := r.Next(2)
				if left[q] == 0 {
					q = 1 - q
				}
				left[q]--
				x := met{block(n), r.Word(), r.Word()}
				n++
				push(w, record(q), x.block, x.a, x.b)
				to[q][h-2] = append(to[q][h-2], x)
			}
			parts = append(parts, stop(w))
		}
		x := started(t, m, lay(t, m, parts...), 4)
		end := played(t, x, s)
		for q := range 2 {
			plan{pushes: to[q][:]}.holds(t, logged(t, end, q, 4))
			if b := popped(t, end, record(q)); b != 0 {
				t.Fatalf("%d is left in queue %d", b, q)
			}
		}
		if b := popped(t, end, record(2)); b != 0 {
			t.Fatalf("%d came into the third queue", b)
		}
		for k, at := range beside {
			if v := load(t, end, at); v != before[k] {
				t.Fatalf("beside a queue, at %d: %x, not %x", at, v, before[k])
			}
		}
	}
}

// P21.4: blocks that go back and forth between two harts, each adding 1 to a word that it only reads and writes: nothing of what one wrote is missed.
func TestBackAndForth(t *testing.T) {
	r := bench.Row(16)
	const rounds = 12
	for _, s := range bench.Scripts(&r, 160) {
		m := begun(t, &r, 2)
		blocks := 1 + r.Next(3)
		for n := range blocks {
			store(t, m, word(block(n), image.BData), 0)
			pushed(t, m, record(0), block(n))
		}
		var parts [][]api.Item
		for h := range 2 {
			w := items.Begin(name(h))
			w.Const(count, rounds)
			w.Label(name(h) + ".again")
			call(w, "pop", record(h))
			w.Branch(api.OpBeq, items.First, items.Zero, name(h)+".again")
			w.Load(12, items.First, image.BData)
			w.Number(api.OpAddi, 12, 12, 1)
			w.Store(12, items.First, image.BData)
			w.Copy(items.Second, items.First)
			call(w, "push", record(1-h))
			w.Number(api.OpAddi, count, count, -1)
			w.Branch(api.OpBne, count, items.Zero, name(h)+".again")
			parts = append(parts, stop(w))
		}
		x := started(t, m, lay(t, m, parts...), 2)
		end := played(t, x, s)
		sum := uint64(0)
		var left []uint64
		for n := range blocks {
			sum += load(t, end, word(block(n), image.BData))
			left = append(left, popped(t, end, record(0)))
		}
		if sum != 2*rounds {
			t.Fatalf("%d was added, not %d", sum, 2*rounds)
		}
		slices.Sort(left)
		if left[0] != block(0) || len(slices.Compact(left)) != blocks || popped(t, end, record(0)) != 0 || popped(t, end, record(1)) != 0 {
			t.Fatalf("%d are in the first queue at the end", left)
		}
	}
}

// handed lays what waits till a word has a number.
func handed(w *items.Writer, label string, at, v uint64) {
	w.Const(12, at)
	w.Const(13, v)
	w.Label(label)
	w.Load(14, 12, 0)
	w.Branch(api.OpBne, 14, 13, label)
}

// hand lays what stores a number for another hart to see; no fence stands ahead of it but the routine's own.
func hand(w *items.Writer, at, v uint64) {
	w.Const(12, at)
	w.Const(13, v)
	w.Store(13, 12, 0)
}

// P21.1 to P21.3: what a routine did is done for whoever sees what its hart did behind it: a queue that another hart made is empty, a block that another one pushed is there, and one that it popped is there no more.
func TestHandedOn(t *testing.T) {
	r := bench.Row(17)
	const turn = logs + 7*logSize
	for _, s := range bench.Scripts(&r, 400) {
		m := littered(t, &r)
		var parts [][]api.Item
		for h := range 3 {
			w := items.Begin(name(h))
			w.Const(note, logOf(h))
			if h == 0 {
				call(w, "mailbox.init", record(0))
				hand(w, turn, 1)
			}
			handed(w, name(h)+".push", turn, uint64(h+1))
			push(w, record(0), block(2*h), uint64(h), 5)
			push(w, record(0), block(2*h+1), uint64(h), 6)
			hand(w, turn, uint64(h+2))
			for k := range 2 {
				handed(w, name(h)+".pop"+string(rune('0'+k)), turn, uint64(4+3*k+h))
				call(w, "pop", record(0))
				noted(w)
				hand(w, turn, uint64(4+3*k+h+1))
			}
			parts = append(parts, stop(w))
		}
		x := started(t, m, lay(t, m, parts...), 3)
		end := played(t, x, s)
		for n := range 6 {
			want := met{block(n), uint64(n / 2), uint64(5 + n%2)}
			if got := logged(t, end, n%3, 2)[n/3]; got != want {
				t.Fatalf("pop %d is %+v, not %+v", n, got, want)
			}
		}
		if b := popped(t, end, record(0)); b != 0 {
			t.Fatalf("%d is left", b)
		}
	}
}

// watch is what a queue is like, as what performs shows it.
type watch struct {
	record uint64
	linked map[uint64]bool // of each block that stands in it whether the one ahead knows it
	queue  []uint64        // the stub too
}

// may tells whether a pop may tell 0: there is no block, or the first one, or the block behind it, is not linked.
func (w *watch) may() bool {
	blocks := slices.DeleteFunc(slices.Clone(w.queue), func(b uint64) bool { return b == word(w.record, image.WStub) })
	return len(blocks) == 0 || w.loose()
}

func (w *watch) loose() bool {
	stub := word(w.record, image.WStub)
	n := slices.IndexFunc(w.queue, func(b uint64) bool { return b != stub })
	for _, b := range w.queue[max(n, 0):min(n+2, len(w.queue))] {
		if b != stub && !w.linked[b] {
			return true
		}
	}
	return false
}

// saw notes what was performed last.
func (w *watch) saw(op api.Op) {
	stub := word(w.record, image.WStub)
	switch {
	case op.Load && op.Store && op.Addr == word(w.record, image.WTail):
		w.queue = append(w.queue, op.Stored)
		w.linked[op.Stored] = false
	case op.Store && !op.Load && op.Addr == word(w.record, image.WHead):
		for len(w.queue) > 0 && w.queue[0] != op.Stored {
			w.queue = w.queue[1:]
		}
	case op.Store && !op.Load && op.Stored != 0 && (op.Addr == stub || op.Addr >= blocksAt && (op.Addr-blocksAt)%blockSize == 0):
		w.linked[op.Stored] = true
	}
}

// P21.3: 0 is told just if at some moment of the pop no block stood in the queue, or one was not linked yet.
func TestNothing(t *testing.T) {
	r := bench.Row(18)
	nothing, open := 0, 0
	for _, s := range bench.Scripts(&r, 200) {
		p := planned(&r, 1, 2+r.Next(3), 3)
		m := begun(t, &r, 1)
		at := lay(t, m, p.parts()...)
		x := started(t, m, at, len(p.pushes))
		stub := word(record(0), image.WStub)
		w := watch{record(0), map[uint64]bool{stub: true}, []uint64{stub}}
		may, done := false, 0
		for range most {
			c, ok := s.Do(x)
			if !ok {
				break
			}
			if op, n := x.Last(); n > done {
				done = n
				w.saw(op)
			}
			if c.Hart == 0 && c.Kind == machine.Issue && x.PC(0) == at["pop"] {
				may = false
			}
			may = may || w.may()
			if c.Hart == 0 && c.Kind == machine.Issue && x.PC(0) == at["pop.leave"] {
				if v, known := x.X(0, 10); known && v == 0 {
					nothing++
					if w.loose() {
						open++
					}
					if !may {
						t.Fatalf("0 of %d", w.queue)
					}
				}
			}
		}
		left(t, x)
	}
	if nothing < 200 || open < 50 {
		t.Errorf("%d times nothing, %d times with a block that was not linked", nothing, open)
	}
}
