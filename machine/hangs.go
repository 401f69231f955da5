package machine

import "slices"

// together tells all IDs of some rising lists, rising, each once.
func together(lists ...[]int) []int {
	var all []int
	for _, l := range lists {
		switch {
		case len(l) == 0:
		case len(all) == 0:
			all = l
		default:
			all = slices.Concat(all, l)
			slices.Sort(all)
			all = slices.Compact(all)
		}
	}
	return all
}

// asked is on what hangs what branches and jalrs read: all operations behind
// those hang on it. IDs stand in the order in which they were asked first, so
// that an operation's are the first ones, however many come behind them.
type asked struct {
	ids    []int
	rising []int // the same ones, to find them in
}

// ask asks on what hangs what a branch or jalr reads.
func (a *asked) ask(ids []int) {
	for _, id := range ids {
		if at, met := slices.BinarySearch(a.rising, id); !met {
			a.rising = slices.Insert(a.rising, at, id)
			a.ids = append(a.ids, id)
		}
	}
}

// first tells the IDs that were asked first, rising.
func (a *asked) first(n int) []int {
	l := slices.Clone(a.ids[:n])
	slices.Sort(l)
	return l
}

// clone tells the same, to go on with.
func (a *asked) clone() asked {
	return asked{slices.Clone(a.ids), slices.Clone(a.rising)}
}
