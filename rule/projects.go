package rule

import (
	"slices"

	"tallyhouse/api"
	"tallyhouse/expr"
)

// projectsJoined is rule 15.
func projectsJoined(p api.Plan, _ schema) (api.Plan, bool) {
	if !stands(p, api.Project, api.Project) {
		return api.Plan{}, false
	}
	x := p.Args[0]
	exprs := slices.Clone(p.Exprs)
	for i, e := range exprs {
		put, err := expr.Put(e, x.Exprs)
		if err != api.OK {
			return api.Plan{}, false
		}
		exprs[i] = put
	}
	return project(exprs, x.Args[0]), true
}

// projectOfAll is rule 16.
func projectOfAll(p api.Plan, over schema) (api.Plan, bool) {
	if p.Op != api.Project || !areSame(p.Exprs, columns(from(0, over.width(p.Args[0])))) {
		return api.Plan{}, false
	}
	return p.Args[0], true
}

// joinNarrowed is rule 31.
func joinNarrowed(p api.Plan, over schema) (api.Plan, bool) {
	if !stands(p, api.Project, api.Join, api.LeftJoin) {
		return api.Plan{}, false
	}
	pairs := p.Args[0]
	x, y := pairs.Args[0], pairs.Args[1]
	first, width := over.width(x), over.width(pairs)
	used := usedIn(slices.Concat(p.Exprs, pairs.Exprs))
	ofX, ofY := kept(used, 0, first), kept(used, first, width)
	if len(ofX)+len(ofY) == width {
		return api.Plan{}, false
	}
	to := newNumbers(slices.Concat(ofX, ofY), width)
	for i := range ofY {
		ofY[i] -= first
	}
	narrow := join(pairs.Op, moved(pairs.Exprs[0], to), narrowed(x, ofX, first), narrowed(y, ofY, width-first))
	exprs := slices.Clone(p.Exprs)
	for i, e := range exprs {
		exprs[i] = moved(e, to)
	}
	return project(exprs, narrow), true
}

// groupNarrowed is rule 32.
func groupNarrowed(p api.Plan, over schema) (api.Plan, bool) {
	if p.Op != api.Group {
		return api.Plan{}, false
	}
	x := p.Args[0]
	width := over.width(x)
	used := slices.Clone(p.Cols)
	for _, agg := range p.Aggs {
		if agg.Fn != api.CountAll {
			used = append(used, agg.Col)
		}
	}
	keep := kept(used, 0, width)
	if len(keep) == width {
		return api.Plan{}, false
	}
	to := newNumbers(keep, width)
	p.Cols, p.Aggs = slices.Clone(p.Cols), slices.Clone(p.Aggs)
	for i, column := range p.Cols {
		p.Cols[i] = to[column]
	}
	for i, agg := range p.Aggs {
		// (The 0 of CountAll, which is no column, stays 0.)
		p.Aggs[i].Col = to[agg.Col]
	}
	return with(p, narrowed(x, keep, width)), true
}

// usedIn expressions: the columns in them.
func usedIn(exprs []api.Expr) []int {
	var used []int
	for _, e := range exprs {
		used = append(used, expr.Columns(e)...)
	}
	return used
}

// kept of the columns from low up to high, which is not among them: rising,
// those that are used; the first one, if none is.
func kept(used []int, low, high int) []int {
	var list []int
	for i := low; i < high; i++ {
		if slices.Contains(used, i) {
			list = append(list, i)
		}
	}
	if len(list) == 0 {
		return []int{low}
	}
	return list
}

// newNumbers of so many columns, when only these are kept; of the others 0.
func newNumbers(keep []int, width int) []int {
	to := make([]int, width)
	for i, column := range keep {
		to[column] = i
	}
	return to
}

// narrowed to these of its columns, if they are not all.
func narrowed(x api.Plan, list []int, width int) api.Plan {
	if len(list) == width {
		return x
	}
	return project(columns(list), x)
}
