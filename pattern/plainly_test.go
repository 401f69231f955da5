package pattern_test

import (
	"slices"

	"postbag/api"
	"postbag/pattern"
)

// plainPlace is a text's last place in a list; -1, if it is not there.
func plainPlace(s string, l []string) int {
	place := -1
	for i := range l {
		if l[i] == s {
			place = i
		}
	}
	return place
}

// below is a path with one place more, in memory of its own.
func below(path []int, place int) []int { return append(append([]int{}, path...), place) }

// plainTests tells a pattern's tests, and plainly: those of its parts are told by themselves and put behind.
func plainTests(p api.Pattern, l []string, path []int) []pattern.Test {
	var tests []pattern.Test
	if p.Kind == api.PatInt {
		tests = append(tests, pattern.Test{Path: path, Kind: p.Kind, N: p.N})
	}
	if p.Kind == api.PatAtom {
		tests = append(tests, pattern.Test{Path: path, Kind: p.Kind, N: plainPlace(p.Name, l)})
	}
	if p.Kind == api.PatTuple {
		tests = append(tests, pattern.Test{Path: path, Kind: p.Kind, N: len(p.Args)})
		for i, part := range p.Args {
			tests = append(tests, plainTests(part, l, below(path, i))...)
		}
	}
	return tests
}

// plainVars tells a pattern's variables plainly.
func plainVars(p api.Pattern, path []int) ([]string, [][]int) {
	if p.Kind == api.PatVar {
		return []string{p.Name}, [][]int{path}
	}
	if p.Kind != api.PatTuple {
		return nil, nil
	}
	var names []string
	var paths [][]int
	for i, part := range p.Args {
		n, ps := plainVars(part, below(path, i))
		names, paths = append(names, n...), append(paths, ps...)
	}
	return names, paths
}

// plainFits tells plainly whether a test fits: the part is asked by the rest of the Path.
func plainFits(x pattern.Test, v api.Value) bool {
	if len(x.Path) > 0 {
		for i, part := range v.Args {
			if i == x.Path[0] {
				return plainFits(pattern.Test{Path: x.Path[1:], Kind: x.Kind, N: x.N}, part)
			}
		}
		return false
	}
	return x.Kind == api.PatInt && v.Kind == api.ValInt && v.N == x.N ||
		x.Kind == api.PatAtom && v.Kind == api.ValAtom && v.N == x.N ||
		x.Kind == api.PatTuple && v.Kind == api.ValTuple && len(v.Args) == x.N
}

// has tells whether a list has the very same test.
func has(l []pattern.Test, x pattern.Test) bool {
	return slices.ContainsFunc(l, func(y pattern.Test) bool {
		return slices.Equal(x.Path, y.Path) && x.Kind == y.Kind && x.N == y.N
	})
}

// plainPlan tells the nodes plainly: each test goes through the patterns behind its own one.
func plainPlan(l []api.Pattern, names []string) ([]pattern.Node, []int) {
	var tests [][]pattern.Test
	firsts := []int{0} // the last one is that of the last leaf
	for _, p := range l {
		own := plainTests(p, names, nil)
		tests = append(tests, own)
		firsts = append(firsts, firsts[len(firsts)-1]+len(own)+1)
	}
	var nodes []pattern.Node
	for k, own := range tests {
		for _, x := range own {
			other := k + 1
			for other < len(l) && has(tests[other], x) {
				other++
			}
			nodes = append(nodes, pattern.Node{Test: x, Yes: len(nodes) + 1, No: firsts[other], Arm: -1})
		}
		nodes = append(nodes, pattern.Node{Arm: k})
	}
	return append(nodes, pattern.Node{Arm: -2}), firsts[:len(l)]
}

// plainFirst tells the first of some patterns, from one on, all of whose tests fit; -2, if there is none.
func plainFirst(l []api.Pattern, names []string, from int, v api.Value) int {
	for k := from; k < len(l); k++ {
		if !slices.ContainsFunc(plainTests(l[k], names, nil), func(x pattern.Test) bool { return !plainFits(x, v) }) {
			return k
		}
	}
	return -2
}
