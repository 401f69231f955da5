package machine

import "postbag/api"

// writers is who wrote each byte: of each eight bytes that somebody wrote to,
// the IDs. What is stored is never across two such eights, as it is aligned.
type writers map[uint64][8]int

// of tells who wrote a byte.
func (w writers) of(x uint64) int {
	if ids, met := w[x/8]; met {
		return ids[x%8]
	}
	return nobody
}

// wrote has an operation be the writer of its bytes.
func (w writers) wrote(op api.Op) {
	ids, met := w[op.Addr/8]
	if !met {
		for k := range ids {
			ids[k] = nobody
		}
	}
	first := op.Addr % 8
	for k := range op.Size {
		ids[first+uint64(k)] = op.ID
	}
	w[op.Addr/8] = ids
}

// clone tells the same, to go on with.
func (w writers) clone() writers {
	c := make(writers, len(w))
	for eight, ids := range w {
		c[eight] = ids
	}
	return c
}
