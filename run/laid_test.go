package run_test

import (
	"fmt"
	"reflect"
	"strings"
	"testing"

	"postbag/api"
	"postbag/bench"
	"postbag/code"
	"postbag/compile"
	"postbag/image"
	"postbag/items"
	"postbag/machine"
	"postbag/run"
	"postbag/thrown"
	"postbag/tree"
	"postbag/value"
)

// codeWords is how much room images of the tests' own code have for it, codeSlots how many slots their records have.
const (
	codeWords = 6000
	codeSlots = 4
)

// What the tests' own code tells by an ecall: a value, and a full memory.
const (
	codeValue = 1
	codeFull  = 2
)

const (
	least = -1 << 63
	most  = 1<<63 - 1
)

func conf(harts int) api.Conf {
	return api.Conf{Harts: harts, Actors: 4, Blocks: 6, Words: 64, Budget: 2}
}

// anyConf tells a config, mostly with little room.
func anyConf(r *bench.Row) api.Conf {
	c := api.Conf{Harts: 1 + r.Next(4), Actors: 1 + r.Next(12), Blocks: 1 + r.Next(16), Words: 8 + r.Next(60), Budget: 1 + r.Next(5)}
	if r.Next(3) > 0 {
		c.Actors, c.Blocks, c.Words = 64, 40, 400
	}
	return c
}

// anyProgram tells a thrown program.
func anyProgram(r *bench.Row) string {
	return tree.Print(thrown.Program(r, thrown.Style{Rounds: 1 + r.Next(6), Spawns: r.Next(2), Deep: 1 + r.Next(3), Alone: r.Next(6) == 0}))
}

// compiled tells a program's image.
func compiled(t testing.TB, src string, c api.Conf) compile.Image {
	t.Helper()
	i, at, e := compile.Program([]byte(src), c)
	if e != api.OK {
		t.Fatalf("%s: error %d at %d", src, int(e), at)
	}
	return i
}

// laid tells where all stands in an image of the tests' own code.
func laid(t testing.TB, c api.Conf) api.Layout {
	t.Helper()
	l, e := image.Lay(c, codeWords, codeSlots)
	if e != api.OK {
		t.Fatal(int(e))
	}
	return l
}

// A text is the tests' own code, while it is written.
type text struct{ *items.Writer }

// boots tells a text that begins at boot.
func boots() text { return text{items.Begin("boot")} }

// tells lays what tells a word.
func (w text) tells(code, a, b uint64) {
	w.Const(10, a)
	w.Const(11, b)
	w.Const(17, code)
	w.Inst(api.Inst{Op: api.OpEcall})
}

// ends lays what stops the hart as it is to be stopped.
func (w text) ends() {
	w.Const(17, 0)
	w.Inst(api.Inst{Op: api.OpEcall})
}

// stores lays what stores words one behind the other.
func (w text) stores(at uint64, words ...uint64) {
	w.Const(5, at)
	for n, v := range words {
		w.Const(6, v)
		w.Store(6, 5, n)
	}
}

// image tells an image of the text.
func (w text) image(t testing.TB, c api.Conf) compile.Image {
	t.Helper()
	words, labels, e := code.Assemble(w.Items(), 0)
	if e != api.OK || len(words) > codeWords {
		t.Fatalf("error %d, %d words of code", int(e), len(words))
	}
	return compile.Image{Conf: c, Layout: laid(t, c), Words: append(words, make([]uint32, codeWords-len(words))...), Labels: labels}
}

// begun tells a run of an image.
func begun(t testing.TB, i compile.Image) *run.Run {
	t.Helper()
	r, e := run.New(i)
	if e != api.OK || r == nil {
		t.Fatalf("error %d", int(e))
	}
	return r
}

// texts tells values' texts.
func texts(l []api.Value) string {
	s := make([]string, len(l))
	for k, v := range l {
		s[k] = value.Text(v)
	}
	return strings.Join(s, " ")
}

// A state is what is told of a run.
type state struct {
	outs       string
	full, done bool
	wrong      api.Errno
	steps      int
}

func stateOf(r *run.Run) state {
	return state{texts(r.Outs()), r.Full(), r.Done(), r.Wrong(), r.Steps()}
}

// seen tells all that is to be seen of a machine, but for its memory.
func seen(x *machine.Machine) string {
	var b strings.Builder
	last, n := x.Last()
	fmt.Fprintf(&b, "%+v %d %+v ", last, n, x.Events())
	for h := range x.Harts() {
		fmt.Fprintf(&b, "\nhart %d at %d: %d %d %d:", h, x.PC(h), x.Open(h), x.Issued(h), int(x.Stopped(h)))
		for k := range 32 {
			v, ok := x.X(h, k)
			fmt.Fprint(&b, " ", v, ok)
		}
	}
	return b.String()
}

// same holds two machines against each other, with their memories and all that was performed.
func same(t testing.TB, x, y *machine.Machine, end uint64) {
	t.Helper()
	if a, b := seen(x), seen(y); a != b {
		t.Fatalf("%s\nnot\n%s", a, b)
	}
	a, _ := x.Bytes(0, int(end))
	b, e := y.Bytes(0, int(end))
	if e != api.OK || string(a) != string(b) {
		t.Fatalf("error %d, other bytes", int(e))
	}
	la, oa := x.Trace()
	lb, ob := y.Trace()
	if !reflect.DeepEqual(la, lb) || !reflect.DeepEqual(oa, ob) {
		t.Fatal("other operations")
	}
}
