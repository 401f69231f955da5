package scope

// variables are those that are in scope.
type variables struct {
	names map[string]struct{}
	order []string // as they were bound
	parts []int    // of each part that is open: how many were bound ahead of it
}

// bound tells whether a name is in scope.
func (v *variables) bound(name string) bool {
	_, is := v.names[name]
	return is
}

// bind has a name in scope, unless it is already; whether it was not is told.
func (v *variables) bind(name string) bool {
	if v.bound(name) {
		return false
	}
	v.names[name] = struct{}{}
	v.order = append(v.order, name)
	return true
}

// open begins a part.
func (v *variables) open() { v.parts = append(v.parts, len(v.order)) }

// shut ends the last part that was begun, with what was bound in it.
func (v *variables) shut() {
	last := len(v.parts) - 1
	ahead := v.parts[last]
	for _, name := range v.order[ahead:] {
		delete(v.names, name)
	}
	v.order, v.parts = v.order[:ahead], v.parts[:last]
}
