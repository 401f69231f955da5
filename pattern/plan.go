package pattern

import (
	"slices"
	"strconv"

	"postbag/api"
)

// What the Arm of a node tells that is no pattern's leaf.
const (
	asks  = -1 // it is a test
	noArm = -2
)

// Node is a test and where it goes, or a leaf.
type Node struct {
	Test    Test
	Yes, No int
	Arm     int
}

// question is a test as a key: of all that make it the very same one as another.
type question struct {
	path    string
	kind, n int
}

func questionOf(t Test) question {
	var path []byte
	for _, place := range t.Path {
		path = append(strconv.AppendInt(path, int64(place), 10), ' ')
	}
	return question{string(path), t.Kind, t.N}
}

// Plan tells the nodes of patterns, and each pattern's first one.
func Plan(l []api.Pattern, atoms []string) ([]Node, []int) {
	places := lastPlaces(atoms)
	var nodes []Node
	firsts := make([]int, len(l))
	for arm, p := range l {
		firsts[arm] = len(nodes)
		for _, t := range testsOf(p, places) {
			nodes = append(nodes, Node{Test: t, Yes: len(nodes) + 1, Arm: asks})
		}
		nodes = append(nodes, Node{Arm: arm})
	}
	nodes = append(nodes, Node{Arm: noArm})
	passOver(nodes, firsts)
	return slices.Clip(nodes), firsts
}

// passOver has each test that doesn't fit go where it may be told otherwise. From the last pattern to the first one,
// for then it is known already where a test goes that the next pattern has, too: beyond all that have it.
func passOver(nodes []Node, firsts []int) {
	behind := len(nodes) - 1
	var next map[question]int
	for _, first := range slices.Backward(firsts) {
		own := map[question]int{}
		for i := first; nodes[i].Arm == asks; i++ {
			q := questionOf(nodes[i].Test)
			no, there := next[q]
			if !there {
				no = behind
			}
			nodes[i].No, own[q] = no, no
		}
		behind, next = first, own
	}
}

// Go tells the arm to which nodes go.
func Go(nodes []Node, from int, v api.Value) int {
	at := from
	// Who took more steps than there are nodes goes round.
going:
	for range nodes {
		switch {
		case at < 0 || at >= len(nodes):
			break going
		case nodes[at].Arm != asks:
			return nodes[at].Arm
		case Fits(nodes[at].Test, v):
			at = nodes[at].Yes
		default:
			at = nodes[at].No
		}
	}
	return noArm
}
