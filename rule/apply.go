package rule

import (
	"tallyhouse/api"
	"tallyhouse/plan"
)

// rewriting of a plan that fits the tables: false, if it does not apply. What
// it makes may share memory with the plan, and with itself.
type rewriting func(p api.Plan, over schema) (api.Plan, bool)

// count of the rules.
const count = 33

func isRule(n int) bool { return n >= 1 && n <= count }

// rules: all of them, the first one first.
func rules() [count]rewriting {
	return [count]rewriting{
		filterParted, filtersJoined, filterUnderProject, filterUnder(api.Union), filterUnder(api.Distinct),
		filterOnFirst, filterOnSecond, filterIntoJoin,
		joinParted, conditionOnFirst, conditionOnSecond,
		filterUnderGroup, filterUnderWindow, filterUnder(api.Minus),
		projectsJoined, projectOfAll,
		joinTurned, joinsToTheRight, joinsToTheLeft, leftJoinToJoin,
		distinctTwice, unionOfOne, unionsJoined, topsJoined, topUnderUnion,
		neverTrue, alwaysTrue, ofNothing, unionWithNothing, minusNothing,
		joinNarrowed, groupNarrowed, folded,
	}
}

// applied: the whole of p with what the rule n makes of the plan at a place,
// which is one. It may share memory with p.
func applied(n int, p api.Plan, at []int, over schema) (api.Plan, api.Errno) {
	made, applies := rules()[n-1](planAt(p, at), over)
	if !applies {
		return api.Plan{}, api.ErrRule
	}
	whole := replaced(p, at, made)
	if _, e := plan.Check(whole, over); e != api.OK {
		return api.Plan{}, e
	}
	return whole, api.OK
}

// schema: the tables that plans are over.
type schema []api.Table

// kinds of the columns of all these plans, one behind the other.
func (s schema) kinds(plans ...api.Plan) []int {
	var kinds []int
	for _, p := range plans {
		of, _ := plan.Check(p, s)
		kinds = append(kinds, of...)
	}
	return kinds
}

// width of a plan: how many columns it has.
func (s schema) width(p api.Plan) int { return len(s.kinds(p)) }
