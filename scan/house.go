package scan

// tenant is a life that was taken, where it stands in its list, and, of one that has a slot, which.
type tenant struct {
	place int
	life  Life
	taken int // how many were taken ahead of it
	slot  int // from 1 on
}

// house is the registers and slots, and who has them.
type house struct {
	rooms     []int // of each life in its list
	registers []tenant
	inSlots   []tenant
	slots     int
	taken     int
}

// common tells the places that two lives have in common; no life, if there are none.
func common(a, b Life) Life {
	both := Life{max(a.From, b.From), min(a.To, b.To)}
	if both.To <= both.From {
		return Life{}
	}
	return both
}

// take gives a life a room, and perhaps one that had a register another one.
func (h *house) take(t tenant) {
	t.taken = h.taken
	h.taken++
	h.leave(t.life.From)
	r := h.free()
	if r < 0 {
		r = h.longest(t)
		if r < 0 {
			h.moveToSlot(t)
			return
		}
		h.moveToSlot(h.registers[r])
	}
	h.registers[r] = t
	h.rooms[t.place] = r
}

// leave has all registers free whose lives are over at a place.
func (h *house) leave(at int) {
	for r, t := range h.registers {
		if t.life.To <= at {
			h.registers[r] = tenant{}
		}
	}
}

// free tells the least free register; a number below 0, if there is none.
func (h *house) free() int {
	for r, t := range h.registers {
		if t.life == (Life{}) {
			return r
		}
	}
	return -1
}

// outlives tells whether a life is rather moved to a slot than another one.
func (t tenant) outlives(other tenant) bool {
	if t.life.To == other.life.To {
		return t.taken > other.taken
	}
	return t.life.To > other.life.To
}

// longest tells whose register a life that is just taken gets, for its life lasts longest; a number below 0, if that
// is the life itself.
func (h *house) longest(t tenant) int {
	found := -1
	for r, other := range h.registers {
		if other.outlives(t) {
			found, t = r, other
		}
	}
	return found
}

// moveToSlot gives a life the nearest slot that it may have.
func (h *house) moveToSlot(t tenant) {
	t.slot = h.nearest(t.life)
	h.slots = max(h.slots, t.slot)
	h.inSlots = append(h.inSlots, t)
	h.rooms[t.place] = -t.slot
}

// nearest tells the first slot that no life has that meets another one.
func (h *house) nearest(life Life) int {
	used := make([]bool, h.slots+1)
	for _, t := range h.inSlots {
		if common(t.life, life) != (Life{}) {
			used[t.slot] = true
		}
	}
	slot := 1
	for slot < len(used) && used[slot] {
		slot++
	}
	return slot
}
