package lower_test

import (
	"encoding/binary"
	"strconv"
	"strings"
	"testing"

	"postbag/api"
	"postbag/bench"
	"postbag/compile"
	"postbag/image"
	"postbag/items"
	"postbag/machine"
	"postbag/model"
	"postbag/tree"
	"postbag/value"
)

// compiled tells a program's image.
func compiled(t testing.TB, src string, c api.Conf) compile.Image {
	t.Helper()
	i, at, e := compile.Program([]byte(src), c)
	if e != api.OK {
		t.Fatalf("%s: error %d at %d", short(src), int(e), at)
	}
	return i
}

// A telling is an image on the machine, and the model that does move by move what the machine does.
type telling struct {
	testing.TB
	i         compile.Image
	x         *machine.Machine
	m         *model.Model
	labels    map[uint64][]string
	pcs       []uint64 // ahead of what is chosen next
	performed int
	events    int
	outs      []string
	values    []api.Value // that were told
	full      bool
	great     bool            // a value was told that is too great
	lost      bool            // an actor has too great a value to go on with
	blocks    map[uint64]bool // those in lists of messages
	count     map[string]int  // how often something was met
	script    bench.Script
	watch     func(hart int, label string) // is told what is issued at labels
}

// Fatalf tells of which program, and by which script, besides.
func (w *telling) Fatalf(format string, args ...any) {
	w.Helper()
	w.TB.Fatalf(format+"\n%+v\n%+v\n%s", append(args, w.i.Conf, w.script, short(tree.Print(w.i.Program)))...)
}

// begun tells a telling of an image.
func begun(t testing.TB, i compile.Image) *telling {
	t.Helper()
	mem, e := image.Build(i.Conf, i.Layout, i.Words)
	if e != api.OK {
		t.Fatalf("Build: error %d", int(e))
	}
	boot, ok := compile.At(i, "boot")
	pcs := make([]uint64, i.Conf.Harts)
	for h := range pcs {
		pcs[h] = boot
	}
	x, e := machine.New(mem, pcs)
	if e != api.OK || !ok {
		t.Fatalf("New: error %d", int(e))
	}
	w := &telling{TB: t, i: i, x: x, labels: map[uint64][]string{}, pcs: pcs, blocks: map[uint64]bool{}, count: map[string]int{}}
	for _, l := range i.Labels {
		w.labels[l.At] = append(w.labels[l.At], l.Name)
	}
	w.m, e = model.New(i.Program)
	if w.lost = e == api.ErrRoom; !w.lost && e != api.OK {
		t.Fatalf("model: error %d", int(e))
	}
	return w
}

// short tells a text, or the beginning of a long one.
func short(s string) string { return s[:min(len(s), 1500)] }

// plays does choices of a script, so many at the most; whether there is none any more.
func (w *telling) plays(s bench.Script, most int) bool {
	w.Helper()
	w.script = s
	for range most {
		c, ok := s.Do(w.x)
		if !ok {
			w.ended()
			return true
		}
		w.saw(c)
	}
	return false
}

// saw has the model do what the machine did.
func (w *telling) saw(c machine.Choice) {
	w.Helper()
	if c.Kind != machine.Issue {
		w.operation(c.Hart)
		return
	}
	at := w.pcs[c.Hart]
	w.pcs[c.Hart] = w.x.PC(c.Hart)
	if e := w.x.Stopped(c.Hart); e != api.OK && e != api.ErrHalt {
		w.Fatalf("hart %d stops at %d with error %d", c.Hart, at, int(e))
	}
	for _, name := range w.labels[at] {
		w.label(c.Hart, name)
		if w.watch != nil {
			w.watch(c.Hart, name)
		}
	}
	if at/4 < uint64(len(w.i.Words)) && w.i.Words[at/4] == 0x73 {
		w.event()
	}
}

// word tells a word of the memory.
func (w *telling) word(at uint64) uint64 {
	w.Helper()
	b, e := w.x.Bytes(at, 8)
	if e != api.OK {
		w.Fatalf("at %d: error %d", at, int(e))
	}
	return binary.LittleEndian.Uint64(b)
}

// has tells what a register has; it has something.
func (w *telling) has(hart, r int) uint64 {
	w.Helper()
	v, ok := w.x.X(hart, r)
	if !ok {
		w.Fatalf("hart %d: register %d is missing", hart, r)
	}
	return v
}

// actor tells the number of the actor that runs on a hart.
func (w *telling) actor(hart int) int { return int(w.has(hart, items.Actor)) }

// words are those of the memory from a place on, so many.
func (w *telling) words(at uint64, n int) []uint64 {
	w.Helper()
	b, e := w.x.Bytes(at, 8*n)
	if e != api.OK {
		w.Fatalf("at %d: error %d", at, int(e))
	}
	l := make([]uint64, n)
	for k := range l {
		l[k] = binary.LittleEndian.Uint64(b[8*k:])
	}
	return l
}

// message tells the value in a block, of which nothing leads out.
func (w *telling) message(block uint64) api.Value {
	w.Helper()
	l := w.i.Layout
	if block < l.Blocks || (block-l.Blocks)%l.BlockSize != 0 || block >= l.End {
		w.Fatalf("%d is no block", block)
	}
	v, e := value.Decode(w.word(block+8*image.BRoot), w.words(block, image.BlockWords), 0)
	if e != api.OK {
		w.Fatalf("a message: error %d", int(e))
	}
	return v
}

// does has the model do a move, if it can.
func (w *telling) does(kind, actor int) (api.Value, bool) {
	v, _, e := w.m.Do(model.Move{Kind: kind, Actor: actor})
	return v, e == api.OK
}

// differs tells of something that the model does not do; if the actor has too great a value, nothing more is asked.
func (w *telling) differs(actor int, what string) {
	w.Helper()
	if _, _, e := w.m.Clone().Do(model.Move{Kind: model.Run, Actor: actor}); e == api.ErrRoom {
		w.lost = true
		return
	}
	w.Fatalf("actor %d: %s, but the model does %d with %s, its box is %s, the way %s; told %s", actor, what,
		w.m.Next(actor), texts(w.m.Args(actor)), texts(w.m.Box(actor)), texts(w.m.Way(actor)), w.outs)
}

// reaches has the model go on up to where the actor does what is seen, and tells whether that is so.
func (w *telling) reaches(actor, next int) bool {
	w.Helper()
	for range 100000 {
		n, args := w.m.Next(actor), w.m.Args(actor)
		if n != model.Silent && !(n == model.Send && len(args) > 0 && args[0].Kind != api.ValPid) {
			return n == next
		}
		if _, ok := w.does(model.Run, actor); !ok {
			return false
		}
	}
	w.Fatalf("actor %d does nothing for ever", actor)
	return false
}

// operation looks at what was performed last.
func (w *telling) operation(hart int) {
	w.Helper()
	op, n := w.x.Last()
	if n == w.performed {
		return
	}
	w.performed = n
	l := w.i.Layout
	if !op.Load || !op.Store || w.lost {
		return
	}
	switch far := op.Addr - l.Actors; {
	case op.Addr == l.Globals+8*image.GNext && op.Value < uint64(w.i.Conf.Actors):
		w.makes(hart, int(op.Value))
	case op.Addr >= l.Actors && op.Addr < l.Blocks && far%l.ActorSize == 8*image.WTail && op.Stored >= l.Blocks:
		w.sends(w.actor(hart), int(far/l.ActorSize), w.message(op.Stored))
	}
}

func (w *telling) makes(hart, number int) {
	w.Helper()
	w.count["made"]++
	if number == 0 {
		return
	}
	a := w.actor(hart)
	if !w.reaches(a, model.Spawn) || w.m.Actors() != number {
		w.differs(a, "makes "+strconv.Itoa(number))
		return
	}
	w.does(model.Run, a)
}

func (w *telling) sends(a, to int, v api.Value) {
	w.Helper()
	w.count["sent"]++
	ok := w.reaches(a, model.Send)
	args := w.m.Args(a)
	if !ok || len(args) != 2 || args[0].N != to || !value.Same(args[1], v) {
		w.differs(a, "sends "+value.Text(v)+" to "+strconv.Itoa(to))
		return
	}
	if w.m.Next(to) == model.None {
		w.count["sent to one that stopped"]++
	}
	if a == to {
		w.count["sent to itself"]++
	}
	w.does(model.Run, a)
}

// event looks at what was told last.
func (w *telling) event() {
	w.Helper()
	l := w.x.Events()
	if len(l) == w.events {
		return
	}
	w.events = len(l)
	e := l[len(l)-1]
	switch {
	case w.full || e.Code != 1 && e.Code != 2:
		w.Fatalf("behind %s, %t: %+v", w.outs, w.full, e)
	case e.Code == 2:
		w.full = true
		return
	case w.great:
		return
	}
	a := w.actor(e.Hart)
	y := w.i.Layout
	v, wrong := value.Decode(e.A, w.words(y.Actors, int(y.End-y.Actors)/8), y.Actors)
	if wrong == api.ErrRoom {
		w.great = true
		w.lost = true
		return
	}
	if wrong != api.OK {
		w.Fatalf("%x is told: error %d", e.A, int(wrong))
	}
	w.outs, w.values = append(w.outs, value.Text(v)), append(w.values, v)
	if w.lost {
		return
	}
	ok := w.reaches(a, model.Out)
	args := w.m.Args(a)
	if !ok || len(args) != 1 || !value.Same(args[0], v) {
		w.differs(a, "tells "+value.Text(v))
		return
	}
	w.does(model.Run, a)
}

// label looks at what is issued at a label.
func (w *telling) label(hart int, name string) {
	w.Helper()
	head, part, dotted := strings.Cut(name, ".")
	number, e := strconv.Atoi(strings.TrimPrefix(head, "p"))
	switch {
	case name == "stop":
		w.registers(hart)
		w.stops(w.actor(hart))
	case head == "def" && dotted:
		w.registers(hart)
		w.count[name]++
	case e != nil || number < 0 || !strings.HasPrefix(head, "p"):
	case part == "took":
		w.registers(hart)
		w.takes(hart, w.has(hart, items.First))
	case part == "late":
		w.registers(hart)
		w.goesOn(w.actor(hart))
	case strings.HasPrefix(part, "fit"):
		arm, e := strconv.Atoi(strings.TrimPrefix(part, "fit"))
		if e != nil {
			w.Fatalf("label %s", name)
		}
		w.registers(hart)
		w.receives(hart, w.has(hart, 24), arm)
	default:
		w.Fatalf("label %s", name)
	}
}

// registers holds what the chapter says of registers against a hart's.
func (w *telling) registers(hart int) {
	w.Helper()
	a := w.actor(hart)
	for r, want := range map[int]uint64{
		items.Record: image.Actor(w.i.Layout, a), items.Globals: w.i.Layout.Globals,
		items.Hart: uint64(hart), items.Most: uint64(w.i.Conf.Actors),
	} {
		if got := w.has(hart, r); got != want {
			w.Fatalf("hart %d, actor %d: register %d has %d, not %d", hart, a, r, got, want)
		}
	}
	if left := w.has(hart, items.Left); a%w.i.Conf.Harts != hart || left < 1 || left > uint64(w.i.Conf.Budget) {
		w.Fatalf("actor %d runs on hart %d, and may become %d times", a, hart, left)
	}
}

func (w *telling) stops(a int) {
	w.Helper()
	w.count["stopped"]++
	if w.lost {
		return
	}
	if !w.reaches(a, model.Stop) {
		w.differs(a, "stops")
		return
	}
	w.does(model.Run, a)
}

func (w *telling) takes(hart int, block uint64) {
	w.Helper()
	w.count["took"]++
	if w.lost {
		return
	}
	a := w.actor(hart)
	v := w.message(block)
	way := w.m.Way(a)
	if w.blocks[block] || len(way) == 0 || !value.Same(way[0], v) {
		w.differs(a, "takes "+value.Text(v))
		return
	}
	w.blocks[block] = true
	w.does(model.Arrive, a)
}

func (w *telling) receives(hart int, block uint64, arm int) {
	w.Helper()
	w.count["fit"+strconv.Itoa(arm)]++
	if w.lost {
		return
	}
	a := w.actor(hart)
	v := w.message(block)
	ok := w.reaches(a, model.Receive)
	message, which, fits := w.m.Takes(a)
	if !ok || !fits || which != arm || !w.blocks[block] || !value.Same(w.m.Box(a)[message], v) {
		w.differs(a, "receives "+value.Text(v)+" by arm "+strconv.Itoa(arm))
		return
	}
	if message > 0 {
		w.count["behind others"]++
	}
	delete(w.blocks, block)
	w.does(model.Run, a)
}

func (w *telling) goesOn(a int) {
	w.Helper()
	w.count["late"]++
	if w.lost {
		return
	}
	if !w.reaches(a, model.Receive) {
		w.differs(a, "goes on late")
	}
	if _, ok := w.does(model.Late, a); !ok && !w.lost {
		w.differs(a, "goes on late")
	}
}

// ended looks at what there is when no choice is left.
func (w *telling) ended() {
	w.Helper()
	for h := range w.x.Harts() {
		if e := w.x.Stopped(h); e != api.ErrHalt || w.x.Open(h) != 0 {
			w.Fatalf("hart %d: error %d at %d, %d open", h, int(e), w.x.PC(h), w.x.Open(h))
		}
	}
	if live := w.word(w.i.Layout.Globals + 8*image.GLive); !w.full && live != 0 {
		w.Fatalf("%d actors live", live)
	}
	if w.full || w.lost {
		return
	}
	for a := range w.m.Actors() {
		if w.m.Next(a) != model.None || w.m.Waiting(a) != 0 {
			w.Fatalf("actor %d has not stopped in the model, or has messages there", a)
		}
	}
	// The model keeps nothing of what was sent to one that has stopped; its block is free no more.
	lost := w.count["sent to one that stopped"]
	free := 0
	for top := w.word(w.i.Layout.Globals+8*image.GTop) & (1<<32 - 1); top != 0; free++ {
		top = w.word(image.Block(w.i.Layout, int(top-1)) + 8*image.BNext)
	}
	if free > w.i.Conf.Blocks-lost {
		w.Fatalf("%d blocks are free of %d, %d messages went to actors that had stopped", free, w.i.Conf.Blocks, lost)
	}
}

func texts(l []api.Value) string {
	var s []string
	for _, v := range l {
		s = append(s, value.Text(v))
	}
	return strings.Join(s, " ")
}
