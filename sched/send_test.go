package sched_test

import (
	"bytes"
	"slices"
	"testing"

	"postbag/api"
	"postbag/bench"
	"postbag/copying"
	"postbag/image"
	"postbag/items"
	"postbag/machine"
	"postbag/order"
	"postbag/value"
)

// made lets the first records be made, so many, one behind the other.
func (h *house) made(t testing.TB, n int) {
	t.Helper()
	for range n {
		_, x := h.called(t, "new", nil)
		h.keep(x)
	}
}

// P24.1: what is sent to no actor's word does nothing: integers, atoms, tuples, numbers of records that are none yet, or that there never are; whatever the message is.
func TestSendToNobody(t *testing.T) {
	h := alone(t, conf(1, 5))
	h.made(t, 3)
	was, _ := h.m.Bytes(h.l.Globals, int(h.l.End-h.l.Globals))
	for _, to := range []uint64{
		0, 4, 8, integer(2), integer(-1), 1 << 63, atom, 4 | atom, 1<<22 - 2,
		image.Actor(h.l, 0) + tuple, h.field(1, image.WSlots) + tuple, tuple, 1<<40 | tuple,
		actor(3), actor(4), actor(5), actor(6), actor(63), actor(64), actor(1<<20 - 1), actor(1 << 20), actor(1 << 30), 1<<64 - 1, 1<<63 | pid,
	} {
		for _, v := range []uint64{integer(7), 1, 1<<63 | tuple} {
			_, x := h.called(t, "send", map[int]uint64{10: to, 11: v})
			if now, _ := x.Bytes(h.l.Globals, int(h.l.End-h.l.Globals)); !bytes.Equal(now, was) {
				t.Errorf("to %x: something is another one", to)
			}
		}
	}
}

// P24.1: a record whose WState is not 0 is an actor's, whoever laid it.
func TestSendToStates(t *testing.T) {
	for _, state := range []uint64{1, 3} {
		h := alone(t, conf(1, 3))
		stub := h.field(1, image.WStub)
		h.set(t, h.field(1, image.WTail), stub)
		h.set(t, h.field(1, image.WHead), stub)
		h.set(t, h.field(1, image.WState), state)
		_, x := h.called(t, "send", map[int]uint64{10: actor(1), 11: integer(5)})
		if l := h.mail(t, x, 1); len(l) != 1 || read(t, x, word(l[0], image.BRoot)) != integer(5) {
			t.Errorf("state %d: %d blocks", state, len(l))
		}
	}
}

// mail tells the blocks that stand in an actor's queue on a machine on which nothing is open.
func (h *house) mail(t testing.TB, x *machine.Machine, n int) []uint64 {
	t.Helper()
	var l []uint64
	stub := h.field(n, image.WStub)
	for at := read(t, x, h.field(n, image.WHead)); at != 0 && len(l) <= h.c.Blocks; at = read(t, x, word(at, image.BNext)) {
		if at != stub {
			l = append(l, at)
		}
	}
	return l
}

// message tells what stands in a block: its value, and how many words it has.
func (h *house) message(t testing.TB, x *machine.Machine, block uint64) (api.Value, api.Errno) {
	t.Helper()
	var l []uint64
	for k := range image.BlockWords {
		l = append(l, read(t, x, word(block, k)))
	}
	return value.Decode(l[image.BRoot], l, 0)
}

// anyValue tells one of so many words at most.
func anyValue(r *bench.Row, words int) api.Value {
	switch r.Next(4) {
	case 0:
		return api.Value{Kind: api.ValInt, N: r.Next(1<<30) - 1<<29}
	case 1:
		return api.Value{Kind: api.ValAtom + r.Next(2), N: r.Next(1 << 20)}
	}
	v := api.Value{Kind: api.ValTuple}
	for words--; words > 0 && len(v.Args) < api.MaxTuple; words-- {
		p := anyValue(r, words-1)
		words -= value.Words(p)
		v.Args = append(v.Args, p)
		if r.Next(5) == 0 {
			break
		}
	}
	if len(v.Args) == 0 {
		return api.Value{Kind: api.ValInt}
	}
	return v
}

// lies lays a value into the heap of actor 0, from its first word on, and tells its word.
func (h *house) lies(t testing.TB, v api.Value) uint64 {
	t.Helper()
	heap := h.field(0, image.WSlots+slots)
	w, l, e := value.Encode(v, nil, heap)
	if e != api.OK || len(l) > h.c.Words {
		t.Fatalf("%s: error %d, %d words", value.Text(v), int(e), len(l))
	}
	for k, w := range l {
		h.set(t, word(heap, k), w)
	}
	return w
}

// P24.1: a block is taken, the message goes into it from BData on, its word to BRoot, and the block stands last in the receiver's queue; nothing else is changed. Messages of 30 words at most have room.
func TestSend(t *testing.T) {
	r := bench.Row(41)
	long := 0
	for range 60 {
		c := conf(1, 4)
		c.Words, c.Blocks = 100, 1+r.Next(5)
		h := alone(t, c)
		h.made(t, 1+r.Next(4))
		var queue [4][]string
		for k := range c.Blocks {
			to, v := r.Next(5), anyValue(&r, 30)
			if value.Words(v) > 20 {
				long++
			}
			was := h.m.Clone()
			_, x := h.called(t, "send", map[int]uint64{10: actor(to), 11: h.lies(t, v)})
			if next, _ := h.m.Load(h.global(image.GNext), 8); uint64(to) < next {
				queue[to] = append(queue[to], value.Text(v))
			} else {
				to = -1
			}
			for n, texts := range queue {
				l := h.mail(t, x, n)
				if len(l) != len(texts) {
					t.Fatalf("actor %d: %d blocks, not %d", n, len(l), len(texts))
				}
				for k, b := range l {
					if v, e := h.message(t, x, b); e != api.OK || value.Text(v) != texts[k] {
						t.Fatalf("actor %d, block %d: %s, %d, not %s", n, k, value.Text(v), int(e), texts[k])
					}
				}
			}
			h.keep(x)
			h.sent(t, x, was.Load, to, value.Words(v), k)
		}
	}
	if long < 20 {
		t.Errorf("%d long messages", long)
	}
}

// sent tells it where something is changed that is neither the free blocks' beginning, nor the block of the message, nor the queue.
func (h *house) sent(t testing.TB, x *machine.Machine, was func(uint64, int) (uint64, api.Errno), to, words, ahead int) {
	t.Helper()
	var may []uint64
	if to >= 0 {
		l := h.mail(t, x, to)
		b := l[len(l)-1]
		may = append(may, h.global(image.GTop), h.field(to, image.WTail), h.field(to, image.WStub), word(b, image.BNext), word(b, image.BRoot))
		for k := range words {
			may = append(may, word(b, image.BData+k))
		}
		if len(l) > 1 {
			may = append(may, word(l[len(l)-2], image.BNext))
		}
	}
	heap := h.field(0, image.WSlots+slots)
	for at := h.l.Globals; at < h.l.End; at += 8 {
		v, _ := was(at, 8)
		if now := read(t, x, at); now != v && !slices.Contains(may, at) && (at < heap || at >= word(heap, h.c.Words)) {
			t.Fatalf("message %d: at %d is %x, not %x any more", ahead, at, now, v)
		}
	}
}

// P24.1: a message just great enough goes into a block, one of a word more, or a block that there is not, goes to full; so does a message to an actor that has stopped, for that one's blocks are not free.
func TestSendFull(t *testing.T) {
	r := bench.Row(42)
	for harts := 1; harts <= 3; harts++ {
		for words := 27; words <= 31; words++ {
			w := begun("a")
			sendsWide(w, words)
			w.tells(integer(1))
			w.goes("stop")
			c := conf(harts, 3)
			c.Words = 60
			h := built(t, c, mainOf("a"), w.Items())
			x := h.started(t)
			played(t, x, bench.Script{Row: bench.Row(r.Word())})
			l, full := told(t, x)
			if full != (words > 30) || len(l) > 0 == full {
				t.Errorf("%d words: %d, %t", words, l, full)
			}
			if !full {
				if b := h.mail(t, x, 0); len(b) != 1 {
					t.Errorf("%d words: %d blocks", words, b)
				} else if v, e := h.message(t, x, b[0]); e != api.OK || value.Words(v) != words {
					t.Errorf("%d words are %d, error %d", words, value.Words(v), int(e))
				}
			}
			h.ended(t, x, full)
		}
		for blocks := 1; blocks <= 5; blocks++ {
			w := begun("main")
			w.makes("stop")
			for k := range blocks {
				w.sends(actor(0), integer(k))
			}
			w.tells(integer(1))
			w.sends(actor(0), integer(9))
			w.tells(integer(2))
			w.leaves()
			c := conf(harts, 3)
			c.Blocks = blocks
			h := built(t, c, w.Items())
			x := h.started(t)
			played(t, x, bench.Script{Row: bench.Row(r.Word())})
			if l, full := told(t, x); !full || !slices.Equal(l, []uint64{4}) {
				t.Errorf("%d blocks: %d, %t", blocks, l, full)
			}
			h.ended(t, x, true)
		}
	}
}

// taker is an actor that takes so many messages, tells each, and stops: its block is free then.
func taker(label string, messages int) []api.Item {
	w := begun(label)
	again := w.label("taker")
	w.Label(again)
	w.waits()
	w.Const(10, 8*28)
	w.Const(11, 0)
	w.call("ensure")
	w.Load(12, items.Record, image.WAlloc)
	w.Load(13, items.Record, image.WLimit)
	w.Copy(14, 25)
	w.Load(10, 25, image.BRoot)
	w.call(copying.Name(copying.In))
	w.Store(12, items.Record, image.WAlloc)
	w.Copy(26, 10)
	w.Copy(10, 25)
	w.call("free")
	w.Copy(10, 26)
	w.call("tell")
	w.counts(0)
	w.Const(6, uint64(messages))
	w.Branch(api.OpBltu, 5, 6, again)
	w.goes("stop")
	return w.Items()
}

// sender is an actor that sends actor 0 tuples of its number, a count, and a tuple of both, so many, but only while there are blocks enough.
func sender(label string, messages int) []api.Item {
	w := begun(label)
	w.Const(10, 8*8)
	w.Const(11, 0)
	w.call("ensure")
	w.counts(0)
	w.Number(api.OpSlli, 24, items.Actor, 2)
	w.Number(api.OpSlli, 25, 5, 2)
	w.lays(26, 24, 25)
	w.lays(26, 24, 25, 26)
	w.Const(10, actor(0))
	w.Copy(11, 26)
	w.call("send")
	w.Load(5, items.Record, image.WSlots)
	w.Const(6, uint64(messages))
	w.Branch(api.OpBgeu, 5, 6, "stop")
	w.Number(api.OpAndi, 6, 5, 1)
	w.Branch(api.OpBne, 6, items.Zero, label)
	w.rests(label)
	return w.Items()
}

// inOrder holds what was told against what so many senders sent, each so much: those of one sender come in order, each once, and as they were sent.
func inOrder(t testing.TB, l []string, actors, each int) {
	t.Helper()
	number := func(n int) api.Value { return api.Value{Kind: api.ValInt, N: n} }
	pair := func(p ...api.Value) api.Value { return api.Value{Kind: api.ValTuple, Args: p} }
	next := make([]int, actors+1)
	for _, got := range l {
		from := -1
		for n := 1; n <= actors; n++ {
			a, k := number(n), number(next[n]+1)
			if got == value.Text(pair(a, k, pair(a, k))) {
				from = n
			}
		}
		if from < 0 {
			t.Fatalf("%s behind %d", got, next)
		}
		next[from]++
	}
	if len(l) != actors*each {
		t.Fatalf("%d messages of %d", len(l), actors*each)
	}
}

// crowd tells a house of one that takes what others send, each so much, with just as many blocks.
func crowd(t testing.TB, harts, actors, each int) *house {
	t.Helper()
	c := conf(harts, actors+1)
	c.Blocks, c.Words = actors*each, 40
	labels := append([]string{"t"}, repeated("s", actors)...)
	return built(t, c, mainOf(labels...), taker("t", actors*each), sender("s", each))
}

// P24.1, with W2: many that send to one, on one to four harts: each message comes once, as it was sent, those of one actor in the order in which it sent them; it stands in the receiver's own heap; and all blocks are free at the end.
func TestManySend(t *testing.T) {
	r := bench.Row(43)
	for harts := 1; harts <= 4; harts++ {
		for _, s := range bench.Scripts(&r, 30) {
			actors, each := 1+r.Next(4), 1+r.Next(4)
			h := crowd(t, harts, actors, each)
			x := h.started(t)
			w := h.watch(x)
			w.plays(t, s)
			inOrder(t, w.values, actors, each)
			h.ended(t, x, false)
			if n := h.blocksFree(t, x); n != h.c.Blocks {
				t.Fatalf("%d blocks of %d are free", n, h.c.Blocks)
			}
			for _, e := range x.Events() {
				if e.A&3 == tuple && (e.A < h.field(0, image.WSlots+slots) || e.A >= h.field(1, 0)) {
					t.Fatalf("%x is not the receiver's own", e.A)
				}
			}
		}
	}
}

// P24.1: wherever one hart waits for long, the others go on as far as they can, and all comes to the same end.
func TestWaitsInTheMidst(t *testing.T) {
	r := bench.Row(45)
	for range 120 {
		harts := 2 + r.Next(3)
		actors, each := 1+r.Next(4), 1+r.Next(3)
		h := crowd(t, harts, actors, each)
		x := h.started(t)
		w := h.watch(x)
		for range 3 {
			s := bench.Script{Row: bench.Row(r.Word()), Style: bench.Style(r.Next(int(bench.Styles)))}
			w.does(t, &s, r.Next(1500))
			gone := r.Next(harts)
			for range 300 {
				for n := range harts {
					if n != gone {
						w.steps(t, n, 1+r.Next(9))
					}
				}
			}
		}
		w.plays(t, bench.Script{Row: bench.Row(r.Word())})
		inOrder(t, w.values, actors, each)
		h.ended(t, x, false)
	}
}

// P24.1: a message may be sent to an actor ahead of its beginning; and to one that has been made by another hart just now, or is made at that time: it is there whole, or nothing is done.
func TestSendEarly(t *testing.T) {
	r := bench.Row(44)
	early := [2]int{}
	for _, s := range bench.Scripts(&r, 200) {
		m := begun("main")
		m.makes("s")
		m.makes("s")
		m.call("new")
		m.Copy(27, 10)
		m.Copy(10, 11)
		m.Const(11, integer(100))
		m.call("send")
		m.Copy(10, 27)
		m.begins("t")
		m.leaves()
		w := begun("s")
		w.Number(api.OpSlli, 11, items.Actor, 2)
		w.Const(10, actor(2))
		w.call("send")
		w.goes("stop")
		c := begun("t")
		c.Const(26, 40)
		c.Label("t again")
		c.Copy(10, items.Record)
		c.call("pop")
		c.Branch(api.OpBeq, 10, 0, "t less")
		c.Copy(25, 10)
		c.Load(10, 25, image.BRoot)
		c.call("tell")
		c.Copy(10, 25)
		c.call("free")
		c.Label("t less")
		c.Number(api.OpAddi, 26, 26, -1)
		c.Branch(api.OpBne, 26, 0, "t again")
		c.goes("stop")
		f := conf(3, 3)
		f.Blocks = 3
		h := built(t, f, m.Items(), w.Items(), c.Items())
		x := h.started(t)
		played(t, x, s)
		l, full := told(t, x)
		free, left := h.blocksFree(t, x), len(h.mail(t, x, 2))
		slices.Sort(l)
		if full || len(slices.Compact(l)) != len(l) || free+left != 3 || !slices.Contains(l, integer(100)) {
			t.Fatalf("%d are told, %t; %d blocks are free, %d in the queue", l, full, free, left)
		}
		for _, v := range l {
			if v != integer(0) && v != integer(1) && v != integer(100) {
				t.Fatalf("%d are told", l)
			}
		}
		early[len(l)+left-2]++ // actor 0 sends when main has left
	}
	if min(early[0], early[1]) < 10 {
		t.Errorf("actor 1 sent too early, and in time: %d times", early)
	}
}

// P24.1, by the rules of program order: what is asked of a receiver, whether it is there, stands ahead of what is done to its queue; and what was put into the block stands ahead of that, too.
func TestSendByRules(t *testing.T) {
	w := begun("main")
	w.call("new")
	w.Copy(27, 10)
	w.Copy(10, 11)
	w.Const(11, integer(3))
	w.call("send")
	w.goes("sched.end")
	h := built(t, conf(1, 2), w.Items())
	x := h.started(t)
	played(t, x, bench.Script{Row: 6})
	l := ops(x, 0)
	swap := -1
	var asked, put []int
	for k, op := range l {
		switch {
		case op.Load && op.Store && op.Addr == h.field(0, image.WTail):
			swap = k
		case op.Load && !op.Store && op.Addr >= h.l.Actors && op.Addr < h.l.Blocks:
			asked = append(asked, k)
		case op.Store && op.Addr >= h.l.Blocks:
			put = append(put, k)
		}
	}
	if swap < 0 || len(asked) == 0 || len(put) == 0 {
		t.Fatalf("%+v", l)
	}
	for _, i := range append(asked, put...) {
		if i < swap && order.Rule(l, i, swap) == 0 {
			t.Errorf("%+v may stand behind the swap", l[i])
		}
	}
}
