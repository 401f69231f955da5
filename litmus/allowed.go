package litmus

import (
	"iter"
	"slices"

	"postbag/api"
	"postbag/axiom"
)

// nobody stands for the ID of a writer where there is none.
const nobody = -1

// plan is what the harts of a test do. What loads or stores has the lowest IDs, from 0 on.
type plan struct {
	harts  [][]api.Op
	moving []*api.Op // by their IDs
	ahead  []uint    // of each of these the IDs, as bits of a set, that have to stand ahead of it
}

// planned tells what the harts of a test do.
func planned(t [][]Do) *plan {
	p := &plan{}
	fences := 0
	for _, things := range t {
		l := make([]api.Op, len(things))
		for k, d := range things {
			l[k] = d.operation()
			if l[k].Fence {
				l[k].ID = mostMoving + fences
				fences++
				continue
			}
			l[k].ID = len(p.moving)
			p.moving = append(p.moving, &l[k])
			p.ahead = append(p.ahead, aheadOf(l[:k+1]))
		}
		p.harts = append(p.harts, l)
	}
	return p
}

// operation tells what a thing does, as if nobody had written ahead of it.
func (d Do) operation() api.Op {
	if d.Kind == Fence {
		return api.Op{Fence: true, Pred: int(d.V >> 4 & 3), Succ: int(d.V & 3), Pair: nobody}
	}
	op := api.Op{Addr: address(d.At), Size: size, Aq: d.Aq, Rl: d.Rl, Pair: nobody}
	if op.Load = d.loads(); op.Load {
		op.From = slices.Repeat([]int{nobody}, size)
	}
	if op.Store = d.Kind != Load; op.Store {
		op.Stored = d.V
	}
	return op
}

// aheadOf tells the IDs that have to stand ahead of the last operation of a list.
func aheadOf(l []api.Op) uint {
	set := uint(0)
	j := len(l) - 1
	for i := range j {
		if !l[i].Fence && ruled(l, i, j) {
			set |= 1 << l[i].ID
		}
	}
	return set
}

// ruled tells whether a rule has the one at i stand ahead of the one at j. As
// no test loads a word twice in a hart, no rule hangs on what is loaded; and
// of what stands between them none asks for more than the fences.
func ruled(l []api.Op, i, j int) bool {
	part := []api.Op{l[i]}
	for _, op := range l[i+1 : j] {
		if op.Fence {
			part = append(part, op)
		}
	}
	part = append(part, l[j])
	w := axiom.Check([][]api.Op{part}, []int{l[j].ID, l[i].ID})
	return w.Kind != 0 && w.Kind < axiom.OrderWrong
}

// count tells how many orders of all memory there are.
func (p *plan) count() int {
	n := 1
	for k := range p.moving {
		n *= k + 1
	}
	return n
}

// beginning is how an order of all memory begins.
type beginning struct {
	gmo []int
	behind
}

// behind is what a beginning leaves to what comes behind it: beginnings in
// which it is alike come to the same ends. IDs are one more than they are: 0 stands for nobody.
type behind struct {
	done  uint            // the IDs that stand in it, as bits of a set
	wrote [words]int      // who wrote each word last
	from  [mostMoving]int // whose word each load of these had
}

// orders yields orders of all memory that stand against no rule, with all of
// their ends: of two that begin alike only one is gone on with.
func (p *plan) orders() iter.Seq[[]int] {
	return func(yield func([]int) bool) {
		f := begun(behind{}, beginning{})
		for b, ok := f.take(); ok; b, ok = f.take() {
			if len(b.gmo) == len(p.moving) {
				if !yield(b.gmo) {
					return
				}
				continue
			}
			for id, ahead := range p.ahead {
				if b.done>>id&1 == 0 && ahead&^b.done == 0 {
					next := p.with(b, id)
					f.meet(next.behind, next)
				}
			}
		}
	}
}

// with tells a beginning with one more ID at its end.
func (p *plan) with(b beginning, id int) beginning {
	next := beginning{append(slices.Clone(b.gmo), id), b.behind}
	next.done |= 1 << id
	op := p.moving[id]
	if op.Load {
		next.from[id] = axiom.Writers(p.harts, p.whole(next), id)[0] + 1
	}
	if op.Store {
		next.wrote[wordOf(op)] = id + 1
	}
	return next
}

// whole tells an order that begins so. What a load of the beginning has hangs
// on no more: a store of its own hart that it is ahead of comes last in any case.
func (p *plan) whole(b beginning) []int {
	gmo := slices.Clone(b.gmo)
	for id := range p.moving {
		if b.done>>id&1 == 0 {
			gmo = append(gmo, id)
		}
	}
	return gmo
}

// wordOf tells the place of the word that an operation loads or stores.
func wordOf(op *api.Op) uint64 {
	return (op.Addr - base) / size
}

// allows tells whether nothing is wrong with an order, each load having what it has by it.
func (p *plan) allows(gmo []int) bool {
	for id, op := range p.moving {
		if !op.Load {
			continue
		}
		op.From, op.Value = axiom.Writers(p.harts, gmo, id), 0
		if w := op.From[0]; w != nobody { // whoever writes to a word writes all of it
			op.Value = p.moving[w].Stored
		}
	}
	return axiom.Check(p.harts, gmo) == axiom.Wrong{}
}

// end tells the end to which an order comes that was asked whether it is allowed.
func (p *plan) end(gmo []int) string {
	var loads []uint64
	for _, op := range p.moving {
		if op.Load {
			loads = append(loads, op.Value)
		}
	}
	var mem [words]uint64
	for _, id := range gmo {
		if op := p.moving[id]; op.Store {
			mem[wordOf(op)] = op.Stored
		}
	}
	return Text(loads, mem[:])
}
