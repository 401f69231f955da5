package pattern

import (
	"slices"

	"postbag/api"
)

// nowhere is the place of an atom that is not among a program's.
const nowhere = -1

// lastPlaces tells the last place of each of a list's texts.
func lastPlaces(l []string) map[string]int {
	places := map[string]int{}
	for place, s := range l {
		places[s] = place
	}
	return places
}

// list is where a list of patterns stands, and how long it is.
type list struct {
	first  *api.Pattern
	length int
}

func listOf(l []api.Pattern) list {
	if len(l) == 0 {
		return list{}
	}
	return list{&l[0], len(l)}
}

// testsOf tells a pattern's tests, each with a Path of its own.
func testsOf(p api.Pattern, places map[string]int) []Test {
	var tests []Test
	var path []int
	ask := func(kind, n int) {
		tests = append(tests, Test{Path: slices.Clone(path), Kind: kind, N: n})
	}
	var gather func(p api.Pattern)
	gather = func(p api.Pattern) {
		switch p.Kind {
		case api.PatInt:
			ask(p.Kind, p.N)
		case api.PatAtom:
			place, there := places[p.Name]
			if !there {
				place = nowhere
			}
			ask(p.Kind, place)
		case api.PatTuple:
			ask(p.Kind, len(p.Args))
			for i, part := range p.Args {
				path = append(path, i)
				gather(part)
				path = path[:len(path)-1]
			}
		}
	}
	gather(p)
	return slices.Clip(tests)
}
