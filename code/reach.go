package code

import (
	"postbag/api"
	"postbag/bits"
)

// near is how many branches of one word each stand at most between a short branch and its label.
const near = 1 << 12 / word

// span is a branch that may become long.
type span struct {
	place  int    // of its item
	at, to uint64 // where it and its label stand while all branches are short
	far    int    // how far its label is now
}

// spans tells all branches, while they are short.
func (d draft) spans() []span {
	var l []span
	stand := d.addresses()
	for n, at := range d.places() {
		if i := d.items[n]; i.Kind == api.ItemBranch {
			to := stand[i.Name]
			l = append(l, span{place: n, at: at, to: to, far: int(to - at)})
		}
	}
	return l
}

// moved is a span when a branch has become long.
func (s span) moved(grown span) span {
	if s.at < grown.at && grown.at < s.to {
		s.far += word
	}
	if s.to <= grown.at && grown.at < s.at {
		s.far -= word
	}
	return s
}

// lengthened has all branches be long that must, and is the draft then.
func (d draft) lengthened() draft {
	l := d.spans()
	var grown []int
	look := func(n int) {
		s := l[n]
		if !d.long[s.place] && !bits.Fits(s.far, 13) {
			d.long[s.place] = true
			grown = append(grown, n)
		}
	}
	for n := range l {
		look(n)
	}
	// A label never comes nearer. So it is all one in which order branches become long.
	for len(grown) > 0 {
		g := grown[len(grown)-1]
		grown = grown[:len(grown)-1]
		for n := max(0, g-near); n < min(len(l), g+near+1); n++ {
			l[n] = l[n].moved(l[g])
			look(n)
		}
	}
	return d
}
