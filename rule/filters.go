package rule

import (
	"slices"

	"tallyhouse/api"
	"tallyhouse/expr"
)

// filterParted is rule 1.
func filterParted(p api.Plan, _ schema) (api.Plan, bool) {
	if p.Op != api.Filter {
		return api.Plan{}, false
	}
	parts := expr.Parts(p.Exprs[0])
	if len(parts) < 2 {
		return api.Plan{}, false
	}
	return filter(expr.All(parts[1:]), filter(parts[0], p.Args[0])), true
}

// filtersJoined is rule 2.
func filtersJoined(p api.Plan, _ schema) (api.Plan, bool) {
	if !stands(p, api.Filter, api.Filter) {
		return api.Plan{}, false
	}
	x := p.Args[0]
	return filter(both(x.Exprs[0], p.Exprs[0]), x.Args[0]), true
}

// filterUnderProject is rule 3.
func filterUnderProject(p api.Plan, _ schema) (api.Plan, bool) {
	if !stands(p, api.Filter, api.Project) {
		return api.Plan{}, false
	}
	x := p.Args[0]
	e, err := expr.Put(p.Exprs[0], x.Exprs)
	if err != api.OK {
		return api.Plan{}, false
	}
	return withFiltered(x, e), true
}

// filterUnder an operator whose rows are those of its Args: rules 4, 5 and 14.
func filterUnder(op int) rewriting {
	return func(p api.Plan, _ schema) (api.Plan, bool) {
		if !stands(p, api.Filter, op) {
			return api.Plan{}, false
		}
		return withFiltered(p.Args[0], p.Exprs[0]), true
	}
}

// withFiltered: a plan whose Args are filtered, each by e.
func withFiltered(p api.Plan, e api.Expr) api.Plan {
	args := slices.Clone(p.Args)
	for i, arg := range args {
		args[i] = filter(e, arg)
	}
	return with(p, args...)
}

// filterOnFirst is rule 6.
func filterOnFirst(p api.Plan, over schema) (api.Plan, bool) {
	if !stands(p, api.Filter, api.Join, api.LeftJoin) {
		return api.Plan{}, false
	}
	e, pairs := p.Exprs[0], p.Args[0]
	x, y := pairs.Args[0], pairs.Args[1]
	if !usesWithin(e, 0, over.width(x)) {
		return api.Plan{}, false
	}
	return with(pairs, filter(e, x), y), true
}

// filterOnSecond is rule 7.
func filterOnSecond(p api.Plan, over schema) (api.Plan, bool) {
	if !stands(p, api.Filter, api.Join) {
		return api.Plan{}, false
	}
	e, pairs := p.Exprs[0], p.Args[0]
	x, y := pairs.Args[0], pairs.Args[1]
	width := over.width(x)
	if !usesWithin(e, width, api.MaxColumns) {
		return api.Plan{}, false
	}
	return with(pairs, x, filter(less(e, width), y)), true
}

// filterIntoJoin is rule 8.
func filterIntoJoin(p api.Plan, _ schema) (api.Plan, bool) {
	if !stands(p, api.Filter, api.Join) {
		return api.Plan{}, false
	}
	pairs := p.Args[0]
	return join(api.Join, both(pairs.Exprs[0], p.Exprs[0]), pairs.Args[0], pairs.Args[1]), true
}

// filterUnderGroup is rule 12. Without columns there is a group of no rows too,
// which a filter beneath does not take away.
func filterUnderGroup(p api.Plan, _ schema) (api.Plan, bool) {
	if !stands(p, api.Filter, api.Group) {
		return api.Plan{}, false
	}
	e, groups := p.Exprs[0], p.Args[0]
	if len(groups.Cols) == 0 || !usesWithin(e, 0, len(groups.Cols)) {
		return api.Plan{}, false
	}
	return withFiltered(groups, moved(e, groups.Cols)), true
}

// filterUnderWindow is rule 13.
func filterUnderWindow(p api.Plan, _ schema) (api.Plan, bool) {
	if !stands(p, api.Filter, api.Window) {
		return api.Plan{}, false
	}
	e, windows := p.Exprs[0], p.Args[0]
	for _, column := range expr.Columns(e) {
		if !slices.Contains(windows.Cols, column) {
			return api.Plan{}, false
		}
	}
	return withFiltered(windows, e), true
}

// leftJoinToJoin is rule 20.
func leftJoinToJoin(p api.Plan, over schema) (api.Plan, bool) {
	if !stands(p, api.Filter, api.LeftJoin) {
		return api.Plan{}, false
	}
	e, pairs := p.Exprs[0], p.Args[0]
	x, y := pairs.Args[0], pairs.Args[1]
	width := over.width(x)
	if !expr.Strict(e, from(width, width+over.width(y))) {
		return api.Plan{}, false
	}
	return filter(e, join(api.Join, pairs.Exprs[0], x, y)), true
}
