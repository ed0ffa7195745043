package expr

import (
	"slices"

	"tallyhouse/api"
	"tallyhouse/cell"
)

// neverTrue where these columns are null: that is certain.
func neverTrue(e api.Expr, columns []int) bool {
	switch e.Op {
	case api.Const:
		return !cell.True(e.V)
	case api.And:
		return neverTrue(e.Args[0], columns) || neverTrue(e.Args[1], columns)
	case api.Or:
		return neverTrue(e.Args[0], columns) && neverTrue(e.Args[1], columns)
	}
	return alwaysNull(e, columns)
}

// alwaysNull where these columns are null: that is certain.
func alwaysNull(e api.Expr, columns []int) bool {
	switch e.Op {
	case api.Col:
		return slices.Contains(columns, e.N)
	case api.Const:
		return cell.Clean(e.V).Kind == api.Null
	case api.IsNull, api.And, api.Or, api.If:
		return false
	}
	return slices.ContainsFunc(e.Args, func(part api.Expr) bool { return alwaysNull(part, columns) })
}

// simpler: a node whose parts are folded, folded.
func simpler(e api.Expr) api.Expr {
	switch {
	case len(e.Args) > 0 && !slices.ContainsFunc(e.Args, isNotConst):
		return constant(ready(e)(nil))
	case e.Op == api.And:
		if zero := slices.IndexFunc(e.Args, isZero); zero >= 0 {
			return e.Args[zero]
		}
	case e.Op == api.Or:
		if slices.ContainsFunc(e.Args, isTrue) {
			return constant(number(1))
		}
	case e.Op == api.If && e.Args[0].Op == api.Const:
		if isTrue(e.Args[0]) {
			return e.Args[1]
		}
		return e.Args[2]
	}
	return e
}

func isNotConst(e api.Expr) bool { return e.Op != api.Const }

// isZero: is it the constant number 0? (It is clean: it has been made anew.)
func isZero(e api.Expr) bool { return e.Op == api.Const && e.V == number(0) }

func isTrue(e api.Expr) bool { return e.Op == api.Const && cell.True(e.V) }
