package lower

import (
	"postbag/api"
	"postbag/image"
	"postbag/items"
	"postbag/scan"
)

// The registers in which something is for a moment, while one thing is laid.
const (
	one   = 5
	two   = 6
	three = 7
)

// registers have what is reckoned, up to where it is taken.
var registers = [...]int{12, 13, 14, 15, 16, 17, 28, 29, 30, 31}

// A word's lowest bits tell what it is.
const (
	tagBits  = 2
	tags     = 3
	tagTuple = 1
	tagAtom  = 2
	tagActor = 3
)

// A reckoning is steps, and where their values are.
type reckoning struct {
	*lowering
	steps  []step
	rooms  []int
	behind int // the first one of the slots of values that have no register
}

// room lays what sees to it that there is room for all tuples of expressions.
func (l *lowering) room(lists ...[]api.Expr) {
	words := 0
	for _, list := range lists {
		words += wordsOf(list)
	}
	if words == 0 {
		return
	}
	l.Const(items.First, uint64(items.Offset(words)))
	l.Const(items.Second, uint64(l.scope.bound()))
	l.call("ensure")
}

// wordsOf tells how many words the tuples of expressions have.
func wordsOf(list []api.Expr) int {
	words := 0
	for _, e := range list {
		switch e.Kind {
		case api.ExprTuple:
			words += 1 + len(e.Args)
			fallthrough
		case api.ExprBin:
			words += wordsOf(e.Args)
		}
	}
	return words
}

// reckon lays what reckons expressions together. What has no register has one of the slots from behind on. Tuples are laid into the heap, or, where nothing but numbers is asked for, not at all.
func (l *lowering) reckon(list []api.Expr, behind int, laid bool) reckoning {
	steps := l.plan(list, laid)
	rooms, slots := scan.Assign(lives(steps), len(registers))
	l.uses(behind + slots)
	r := reckoning{l, steps, rooms, behind}
	write := func(place int) {
		room := rooms[place]
		if room >= 0 {
			r.step(steps[place], registers[room])
			return
		}
		r.step(steps[place], one)
		l.keep(one, r.slot(room))
	}
	for place := range rooms {
		write(place)
	}
	return r
}

// slot tells the slot of a room that is no register.
func (r reckoning) slot(room int) int { return r.behind - room - 1 }

// value tells the register that has a step's value: its own, or a spare one, into which it is loaded.
func (r reckoning) value(place, spare int) int {
	room := r.rooms[place]
	if room >= 0 {
		return registers[room]
	}
	r.Load(spare, items.Record, image.WSlots+r.slot(room))
	return spare
}

// told tells the register that has the value of an expression, as value does.
func (r reckoning) told(expr, spare int) int { return r.value(r.last(expr), spare) }

// last tells the last step of an expression.
func (r reckoning) last(expr int) int { return r.steps[len(r.steps)-1].parts[expr] }

// step lays what gives a register a step's value. What it takes is not needed any more when that is in the register.
func (r reckoning) step(s step, rd int) {
	switch s.kind {
	case constant:
		r.Const(rd, s.word)
	case self:
		r.Number(api.OpSlli, rd, items.Actor, tagBits)
		r.Number(api.OpAddi, rd, rd, tagActor)
	case variable:
		r.Load(rd, items.Record, image.WSlots+s.slot)
	case tuple:
		r.tuple(s, rd)
	default:
		r.sign(s, rd)
	}
}

// tuple lays a tuple behind all that is in the heap.
func (r reckoning) tuple(s step, rd int) {
	begin, part := two, one
	r.Load(begin, items.Record, image.WAlloc)
	r.Const(part, uint64(len(s.parts)))
	r.Store(part, begin, 0)
	for k, place := range s.parts {
		r.Store(r.value(place, part), begin, k+1)
	}
	r.Number(api.OpAddi, part, begin, items.Offset(len(s.parts)+1))
	r.Store(part, items.Record, image.WAlloc)
	r.Number(api.OpAddi, rd, begin, tagTuple)
}

// sign lays what a sign makes of two values.
func (r reckoning) sign(s step, rd int) {
	number, both := r.Number, r.Both
	a, b := r.value(s.parts[0], one), r.value(s.parts[1], two)
	if s.kind == equal {
		r.equal(s, rd, a, b)
		return
	}
	a, b = r.number(s.parts[0], a, one), r.number(s.parts[1], b, two)
	// A word of an integer is four times that: sums leave 64 bits where integers leave 62.
	switch s.kind {
	case sum:
		both(api.OpAdd, rd, a, b)
	case difference:
		both(api.OpSub, rd, a, b)
	case product:
		number(api.OpSrai, three, a, tagBits)
		both(api.OpMul, rd, three, b)
	case less:
		both(api.OpSlt, rd, a, b)
		number(api.OpSlli, rd, rd, tagBits)
	}
}

// equal lays what tells whether two values are the same, and no tuples.
func (r reckoning) equal(s step, rd, a, b int) {
	number, both := r.Number, r.Both
	both(api.OpXor, three, a, b)
	number(api.OpSltiu, three, three, 1)
	if !r.flat(s.parts[0]) && !r.flat(s.parts[1]) {
		number(api.OpAndi, one, a, tags)
		number(api.OpAddi, one, one, -tagTuple)
		both(api.OpSltu, one, items.Zero, one)
		both(api.OpAnd, three, three, one)
	}
	number(api.OpSlli, rd, three, tagBits)
}

// number tells the register that has what counts of a value that another one has; a spare one, where it is not certain that it is an integer.
func (r reckoning) number(place, a, spare int) int {
	if r.whole(place) {
		return a
	}
	r.Number(api.OpAndi, three, a, tags)
	r.Both(api.OpSltu, three, items.Zero, three)
	r.Number(api.OpAddi, three, three, -1)
	r.Both(api.OpAnd, spare, a, three)
	return spare
}

// whole tells whether a step's value is certain to be an integer.
func (r reckoning) whole(place int) bool {
	s := r.steps[place]
	return s.kind >= sum || s.kind == constant && s.word&tags == 0
}

// flat tells whether a step's value is certain to be no tuple.
func (r reckoning) flat(place int) bool {
	s := r.steps[place]
	return r.whole(place) || s.kind == self || s.kind == constant && s.word&tags != tagTuple
}

// unless lays what goes to a label if an expression's value is no integer other than 0.
func (r reckoning) unless(expr int, label string) {
	v := r.told(expr, one)
	if !r.whole(r.last(expr)) {
		r.Number(api.OpAndi, two, v, tags)
		r.Branch(api.OpBne, two, items.Zero, label)
	}
	r.Branch(api.OpBeq, v, items.Zero, label)
}
