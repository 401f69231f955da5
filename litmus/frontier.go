package litmus

// frontier is what waits to be gone on with, of what was met: of what is alike the first alone.
type frontier[K comparable, T any] struct {
	met   map[K]struct{}
	waits []T
}

// begun tells a frontier of one thing.
func begun[K comparable, T any](k K, x T) *frontier[K, T] {
	f := &frontier[K, T]{met: map[K]struct{}{}}
	f.meet(k, x)
	return f
}

// meet meets something; k is what it has in common with what is alike.
func (f *frontier[K, T]) meet(k K, x T) {
	if _, ok := f.met[k]; !ok {
		f.met[k] = struct{}{}
		f.waits = append(f.waits, x)
	}
}

// take takes something that waits: what was met last, so that few wait at a time.
func (f *frontier[K, T]) take() (T, bool) {
	var x T
	last := len(f.waits) - 1
	if last < 0 {
		return x, false
	}
	f.waits[last], x = x, f.waits[last]
	f.waits = f.waits[:last]
	return x, true
}
