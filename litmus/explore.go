package litmus

import (
	"slices"
	"strconv"

	"postbag/api"
	"postbag/inst"
	"postbag/machine"
	"postbag/memory"
)

// Where a test's code stands.
const (
	room    = 2048 // the memory's bytes
	between = 256  // from one hart's code to the next one's
)

// explored tells all ends that the machine comes to, unless it is more than
// most machines that are met on the way.
func explored(t [][]Do, most int) ([]string, bool) {
	start := laid(t)
	f := begun(likeness(start), start)
	met := ends{}
	for m, ok := f.take(); ok; m, ok = f.take() {
		if len(f.met) > most {
			return nil, false
		}
		choices := m.Choices()
		for _, c := range choices {
			next := m.Clone()
			next.Choose(c)
			f.meet(likeness(next), next)
		}
		if len(choices) == 0 {
			met[come(t, m)] = struct{}{}
		}
	}
	return met.list(), true
}

// laid tells the machine with a test's code.
func laid(t [][]Do) *machine.Machine {
	m := memory.New(room)
	var pcs []uint64
	for h, l := range Code(t) {
		pc := uint64(between * h)
		pcs = append(pcs, pc)
		for k, i := range l {
			w, _ := inst.Encode(i)
			m.Store(pc+uint64(4*k), 4, uint64(w))
		}
	}
	start, _ := machine.New(m, pcs)
	return start
}

// likeness tells what machines of one test have in common just if they are
// alike: what no code of a test sets or stores to is left out, as all have it.
func likeness(m *machine.Machine) string {
	var b []byte
	put := func(v uint64) { b = append(strconv.AppendUint(b, v, 36), ' ') }
	lists, gmo := m.Trace()
	for h, l := range lists {
		put(m.PC(h))
		put(uint64(m.Open(h)))
		put(uint64(m.Stopped(h)))
		for _, r := range [...]int{valueIn, addressIn, loadedIn, loadedIn + 1, loadedIn + 2, loadedIn + 3} {
			if v, ok := m.X(h, r); ok {
				put(v)
			} else {
				b = append(b, '?')
			}
		}
		for _, op := range l {
			b = append(b, performed(op, gmo))
		}
		b = append(b, ';')
	}
	for _, v := range wordsOf(m) {
		put(v)
	}
	return string(b)
}

// performed tells by a byte whether an operation is in the order of all memory.
func performed(op api.Op, gmo []int) byte {
	if slices.Contains(gmo, op.ID) {
		return '+'
	}
	return '-'
}

// wordsOf tells what the words of a test have.
func wordsOf(m *machine.Machine) []uint64 {
	var l []uint64
	b, _ := m.Bytes(base, words*size)
	for word := range slices.Chunk(b, size) {
		v := uint64(0)
		for k := range word {
			v |= uint64(word[k]) << (8 * k)
		}
		l = append(l, v)
	}
	return l
}

// come tells the end that a machine has come to.
func come(t [][]Do, m *machine.Machine) string {
	var loads []uint64
	for h, l := range t {
		r := loadedIn
		for _, d := range l {
			if d.loads() {
				v, _ := m.X(h, r)
				loads = append(loads, v)
				r++
			}
		}
	}
	return Text(loads, wordsOf(m))
}
