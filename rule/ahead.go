package rule

import (
	"slices"

	"tallyhouse/api"
	"tallyhouse/cell"
	"tallyhouse/expr"
)

// isSettled: does e come to the same for every row, and is that True, or not,
// as is asked?
func isSettled(e api.Expr, truth bool) bool {
	return len(expr.Columns(e)) == 0 && cell.True(expr.Eval(e, nil)) == truth
}

// neverTrue is rule 26.
func neverTrue(p api.Plan, over schema) (api.Plan, bool) {
	never := p.Op == api.Top && p.N == 0
	if p.Op == api.Filter || p.Op == api.Join {
		never = isSettled(p.Exprs[0], false)
	}
	if !never {
		return api.Plan{}, false
	}
	return empty(over.kinds(p)), true
}

// alwaysTrue is rule 27.
func alwaysTrue(p api.Plan, _ schema) (api.Plan, bool) {
	if p.Op != api.Filter || !isSettled(p.Exprs[0], true) {
		return api.Plan{}, false
	}
	return p.Args[0], true
}

// ofNothing is rule 28.
func ofNothing(p api.Plan, over schema) (api.Plan, bool) {
	if !isOfNothing(p) {
		return api.Plan{}, false
	}
	return empty(over.kinds(p)), true
}

// isOfNothing: does p mean no row, since Args of it are Empty?
func isOfNothing(p api.Plan) bool {
	switch p.Op {
	case api.Filter, api.Project, api.Distinct, api.Top, api.Window, api.LeftJoin, api.Minus:
		return p.Args[0].Op == api.Empty
	case api.Group:
		return len(p.Cols) > 0 && p.Args[0].Op == api.Empty
	case api.Join:
		return firstOf(p.Args, api.Empty) >= 0
	case api.Union:
		return !slices.ContainsFunc(p.Args, func(arg api.Plan) bool { return arg.Op != api.Empty })
	}
	return false
}

// unionWithNothing is rule 29.
func unionWithNothing(p api.Plan, _ schema) (api.Plan, bool) {
	if p.Op != api.Union || len(p.Args) < 2 {
		return api.Plan{}, false
	}
	i := firstOf(p.Args, api.Empty)
	if i < 0 {
		return api.Plan{}, false
	}
	return with(p, slices.Concat(p.Args[:i], p.Args[i+1:])...), true
}

// minusNothing is rule 30.
func minusNothing(p api.Plan, _ schema) (api.Plan, bool) {
	if p.Op != api.Minus || p.Args[1].Op != api.Empty {
		return api.Plan{}, false
	}
	return p.Args[0], true
}

// folded is rule 33.
func folded(p api.Plan, over schema) (api.Plan, bool) {
	kinds := over.kinds(p.Args...)
	exprs := slices.Clone(p.Exprs)
	for i, e := range exprs {
		if simple := expr.Fold(e); columnKind(simple, kinds) == columnKind(e, kinds) {
			exprs[i] = simple
		}
	}
	if areSame(exprs, p.Exprs) {
		return api.Plan{}, false
	}
	p.Exprs = exprs
	return p, true
}

// columnKind: the kind of a column of what e comes to; Int, if that is always
// null.
func columnKind(e api.Expr, kinds []int) int {
	kind, _ := expr.Kind(e, kinds)
	return max(kind, api.Int)
}

func areSame(exprs, others []api.Expr) bool { return slices.EqualFunc(exprs, others, isSame) }

// isSame: of expressions that hold nothing that they do not need.
func isSame(e, f api.Expr) bool {
	return e.Op == f.Op && e.N == f.N && e.V == f.V && areSame(e.Args, f.Args)
}
