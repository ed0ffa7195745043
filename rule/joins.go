package rule

import (
	"slices"

	"tallyhouse/api"
	"tallyhouse/expr"
)

// joinParted is rule 9.
func joinParted(p api.Plan, _ schema) (api.Plan, bool) {
	if p.Op != api.Join {
		return api.Plan{}, false
	}
	parts := expr.Parts(p.Exprs[0])
	if len(parts) < 2 {
		return api.Plan{}, false
	}
	return filter(expr.All(parts[1:]), join(api.Join, parts[0], p.Args[0], p.Args[1])), true
}

// conditionOnFirst is rule 10. (Of a LeftJoin the rows of the first Arg for
// which a part is not true stay, without a partner.)
func conditionOnFirst(p api.Plan, over schema) (api.Plan, bool) {
	if p.Op != api.Join {
		return api.Plan{}, false
	}
	x, y := p.Args[0], p.Args[1]
	width := over.width(x)
	q, others, there := takenOut(p.Exprs[0], func(part api.Expr) bool { return usesWithin(part, 0, width) })
	if !there {
		return api.Plan{}, false
	}
	return join(api.Join, others, filter(q, x), y), true
}

// conditionOnSecond is rule 11.
func conditionOnSecond(p api.Plan, over schema) (api.Plan, bool) {
	if p.Op != api.Join && p.Op != api.LeftJoin {
		return api.Plan{}, false
	}
	x, y := p.Args[0], p.Args[1]
	width := over.width(x)
	q, others, there := takenOut(p.Exprs[0], func(part api.Expr) bool { return usesWithin(part, width, api.MaxColumns) })
	if !there {
		return api.Plan{}, false
	}
	return join(p.Op, others, x, filter(less(q, width), y)), true
}

// joinTurned is rule 17.
func joinTurned(p api.Plan, over schema) (api.Plan, bool) {
	if p.Op != api.Join {
		return api.Plan{}, false
	}
	first, second := over.width(p.Args[0]), over.width(p.Args[1])
	// Where a column comes to stand is also where it is to be fetched from.
	turned := slices.Concat(from(second, first+second), from(0, second))
	return project(columns(turned), join(api.Join, moved(p.Exprs[0], turned), p.Args[1], p.Args[0])), true
}

// joinsToTheRight is rule 18.
func joinsToTheRight(p api.Plan, over schema) (api.Plan, bool) {
	if !stands(p, api.Join, api.Join) {
		return api.Plan{}, false
	}
	c, within, z := p.Exprs[0], p.Args[0], p.Args[1]
	d, x, y := within.Exprs[0], within.Args[0], within.Args[1]
	width := over.width(x)
	if !usesWithin(c, width, api.MaxColumns) {
		return api.Plan{}, false
	}
	return join(api.Join, d, x, join(api.Join, less(c, width), y, z)), true
}

// joinsToTheLeft is rule 19.
func joinsToTheLeft(p api.Plan, over schema) (api.Plan, bool) {
	if p.Op != api.Join || p.Args[1].Op != api.Join {
		return api.Plan{}, false
	}
	d, x, within := p.Exprs[0], p.Args[0], p.Args[1]
	c, y, z := within.Exprs[0], within.Args[0], within.Args[1]
	width := over.width(x)
	if !usesWithin(d, 0, width+over.width(y)) {
		return api.Plan{}, false
	}
	return join(api.Join, more(c, width), join(api.Join, d, x, y), z), true
}
