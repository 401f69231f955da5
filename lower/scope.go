package lower

// A scope has the variables that are in scope, in the order in which they were bound: each has the slot of its place.
type scope struct {
	names []string
	slots map[string][]int // of each name's variables; the last one hides the others
}

// bound tells how many there are.
func (s *scope) bound() int { return len(s.names) }

// bind puts a variable behind all others, and tells its slot.
func (s *scope) bind(name string) int {
	if s.slots == nil {
		s.slots = map[string][]int{}
	}
	slot := len(s.names)
	s.names = append(s.names, name)
	s.slots[name] = append(s.slots[name], slot)
	return slot
}

// slot tells the slot of a name's variable, and whether there is one.
func (s *scope) slot(name string) (int, bool) {
	l := s.slots[name]
	if len(l) == 0 {
		return 0, false
	}
	return l[len(l)-1], true
}

// leave lets all variables go but the first ones.
func (s *scope) leave(first int) {
	for len(s.names) > first {
		name := s.names[len(s.names)-1]
		s.names = s.names[:len(s.names)-1]
		s.slots[name] = s.slots[name][:len(s.slots[name])-1]
	}
}
