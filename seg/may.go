package seg

import (
	"slices"

	"tallyhouse/api"
	"tallyhouse/cell"
	"tallyhouse/expr"
)

// May e be true of a row of a segment of which h is told?
func May(kinds []int, h api.Head, e api.Expr) (bool, api.Errno) {
	columns := len(kinds)
	if h.Rows < 0 || len(h.Low) != columns || len(h.High) != columns || len(h.Nulls) != columns {
		return false, api.ErrArg
	}
	if _, err := expr.Kind(e, kinds); err != api.OK {
		return false, err
	}
	if h.Rows == 0 {
		return false, api.OK
	}
	never := func(part api.Expr) bool { return isNever(part, h) }
	return !slices.ContainsFunc(expr.Parts(e), never), api.OK
}

// isNever: is e, which fits the columns that h tells of, certainly true of no
// row?
func isNever(e api.Expr, h api.Head) bool {
	switch {
	case e.Op == api.Const:
		return !cell.True(e.V)
	case isNullOfColumn(e):
		return h.Nulls[e.Args[0].N] <= 0
	case e.Op == api.Not && isNullOfColumn(e.Args[0]):
		return isNull(h.Low[e.Args[0].Args[0].N])
	case e.Op >= api.Eq && e.Op <= api.Ge:
		return isNeverSo(e.Op, e.Args[0], e.Args[1], h)
	}
	return false
}

func isNullOfColumn(e api.Expr) bool { return e.Op == api.IsNull && e.Args[0].Op == api.Col }

func isNull(v api.Value) bool { return cell.Clean(v).Kind == api.Null }

// isNeverSo: do the two sides, if they are a column and a constant, certainly
// compare so in no row?
func isNeverSo(op int, left, right api.Expr, h api.Head) bool {
	if left.Op == api.Const {
		op, left, right = turned(op), right, left
	}
	if left.Op != api.Col || right.Op != api.Const {
		return false
	}
	low, high := h.Low[left.N], h.High[left.N]
	if isNull(low) || isNull(right.V) {
		return true
	}
	return isOutside(op, cell.Order(low, right.V), cell.Order(high, right.V))
}

// turned: the operator that says the same with its sides changed.
func turned(op int) int {
	switch op {
	case api.Lt:
		return api.Gt
	case api.Le:
		return api.Ge
	case api.Gt:
		return api.Lt
	case api.Ge:
		return api.Le
	}
	return op
}

// isOutside: does no value compare so with a constant, to which the least of
// them and the greatest stand in these orders?
func isOutside(op, low, high int) bool {
	switch op {
	case api.Eq:
		return low > 0 || high < 0
	case api.Ne:
		return low == 0 && high == 0
	case api.Lt:
		return low >= 0
	case api.Le:
		return low > 0
	case api.Gt:
		return high <= 0
	}
	return high < 0
}
