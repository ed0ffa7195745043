package rule

import (
	"slices"

	"tallyhouse/api"
)

func isPlace(p api.Plan, at []int) bool {
	for _, i := range at {
		if i < 0 || i >= len(p.Args) {
			return false
		}
		p = p.Args[i]
	}
	return true
}

func planAt(p api.Plan, at []int) api.Plan {
	for _, i := range at {
		p = p.Args[i]
	}
	return p
}

// replaced: p with another plan at a place.
func replaced(p api.Plan, at []int, by api.Plan) api.Plan {
	if len(at) == 0 {
		return by
	}
	args := slices.Clone(p.Args)
	args[at[0]] = replaced(args[at[0]], at[1:], by)
	return with(p, args...)
}

// placesIn p, which stands at a place itself: that one, and all within.
func placesIn(p api.Plan, at []int) [][]int {
	places := [][]int{at}
	for i, arg := range p.Args {
		places = append(places, placesIn(arg, append(slices.Clone(at), i))...)
	}
	return places
}
