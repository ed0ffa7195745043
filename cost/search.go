package cost

import (
	"slices"

	"tallyhouse/api"
	"tallyhouse/plan"
)

// search for a cheap plan: the least cost of a whole plan that has been found.
type search struct {
	tables []api.Table
	scans  scans
	least  int
}

// best plan that is found of those with the meaning of p.
func (s *search) best(p api.Plan) api.Plan {
	s.least = s.scans.reckon(p).cost
	return s.improved(p, func(q api.Plan) api.Plan { return q })
}

// improved: p, a plan within the whole one, and then the plans within it. They
// are looked at from the outermost on, as what is promised of Joins is promised
// of the plans beneath them as they were handed in. whole puts another plan in
// p's place; each change lowers what the whole costs.
func (s *search) improved(p api.Plan, whole func(api.Plan) api.Plan) api.Plan {
	p = s.rejoined(p, whole)
	for i, arg := range p.Args {
		better := s.improved(arg, func(q api.Plan) api.Plan { return whole(withArg(p, i, q)) })
		p = withArg(p, i, better)
	}
	return p
}

func withArg(p api.Plan, i int, arg api.Plan) api.Plan {
	p.Args = slices.Clone(p.Args)
	p.Args[i] = arg
	return p
}

// rejoined: the cheapest tree of Joins of few plans, if it lowers the cost.
func (s *search) rejoined(p api.Plan, whole func(api.Plan) api.Plan) api.Plan {
	if p.Op != api.Join || countLeaves(p) > api.MaxJoins {
		return p
	}
	best, apart := p, takenApart(p, s.tables)
	for _, t := range apart.trees() {
		if q := apart.inOrder(t); s.lowers(whole(q)) {
			best = q
		}
	}
	return best
}

// lowers: does this whole plan cost less than what has been found, and does
// plan.Check take it? Then it is what has been found.
func (s *search) lowers(whole api.Plan) bool {
	cost := s.scans.reckon(whole).cost
	if cost >= s.least {
		return false
	}
	if _, e := plan.Check(whole, s.tables); e != api.OK {
		return false
	}
	s.least = cost
	return true
}
