package order

import (
	"iter"
	"math"

	"postbag/api"
)

// span is bytes from first to last, both of them too: one that ends at the
// greatest place has no place behind it. It is empty if last is below first.
type span struct{ first, last uint64 }

// empty tells whether there are no bytes.
func (s span) empty() bool {
	return s.last < s.first
}

// nowhere tells a span that has no byte in common with any.
func nowhere() span {
	return span{first: 1, last: 0}
}

// common tells the bytes that two spans have.
func common(a, b span) span {
	return span{max(a.first, b.first), min(a.last, b.last)}
}

// bytesOf tells the bytes of an operation.
func bytesOf(a *api.Op) span {
	if !a.Load && !a.Store || a.Size < 1 || a.Size > api.MaxMemory {
		return nowhere()
	}
	more := uint64(a.Size - 1)
	if a.Addr > math.MaxUint64-more {
		return nowhere()
	}
	return span{a.Addr, a.Addr + more}
}

// returnedBy tells the bytes that an operation returns: those of which From tells by whom.
func returnedBy(a *api.Op) span {
	s := bytesOf(a)
	if !a.Load || s.empty() || len(a.From) == 0 {
		return nowhere()
	}
	s.last = s.first + uint64(min(a.Size, len(a.From))-1)
	return s
}

// returned yields the IDs by which an operation returns its bytes, byte by byte.
func returned(a *api.Op) iter.Seq[int] {
	return func(yield func(int) bool) {
		s := returnedBy(a)
		if s.empty() {
			return
		}
		for _, id := range a.From[:s.last-s.first+1] {
			if !yield(id) {
				return
			}
		}
	}
}

// bare yields those of some bytes to which none of the operations stores.
func bare(s span, l []api.Op) iter.Seq[uint64] {
	return func(yield func(uint64) bool) {
		if s.empty() {
			return
		}
		n := s.last - s.first + 1
		// What is counted is where stores begin and end, not each of their
		// bytes: so many long stores over many bytes are still gone through once.
		change := make([]int, n+1)
		for k := range l {
			if c := common(s, bytesOf(&l[k])); l[k].Store && !c.empty() {
				change[c.first-s.first]++
				change[c.last-s.first+1]--
			}
		}
		stores := 0
		for k := range n {
			stores += change[k]
			if stores == 0 && !yield(s.first+k) {
				return
			}
		}
	}
}
