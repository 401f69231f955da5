package model

// waiting is what waits to be tried, by how far it has come.
type waiting[T any] struct {
	levels [][]T // the oldest ahead
	newest bool  // whether what was put last is taken, else of what has come farthest what waits longest
}

// put puts something that has come so far.
func (w *waiting[T]) put(x T, far int) {
	if w.newest {
		far = 0
	}
	for len(w.levels) <= far {
		w.levels = append(w.levels, nil)
	}
	w.levels[far] = append(w.levels[far], x)
}

// take takes the next one; whether there is one.
func (w *waiting[T]) take() (T, bool) {
	var x, none T
	for far := len(w.levels) - 1; far >= 0; far-- {
		list := w.levels[far]
		last := len(list) - 1
		switch {
		case last < 0:
			continue
		case w.newest:
			x, list[last] = list[last], none
			w.levels[far] = list[:last]
		default:
			x, list[0] = list[0], none
			w.levels[far] = list[1:]
		}
		return x, true
	}
	return none, false
}
