package cost

import (
	"tallyhouse/api"
	"tallyhouse/cell"
	"tallyhouse/expr"
)

// leftOver of rows whose columns have so many unlike values, by a condition.
func leftOver(rows int, condition api.Expr, unlike []int) int {
	for _, part := range expr.Parts(condition) {
		rows = leftByPart(rows, part, unlike)
	}
	return rows
}

func leftByPart(rows int, part api.Expr, unlike []int) int {
	switch {
	case part.Op == api.Const && cell.True(part.V):
		return rows
	case part.Op == api.Const:
		return 0
	case isOfColumns(part):
		return per(rows, max(unlike[part.Args[0].N], unlike[part.Args[1].N]))
	case isOfColumnAndConst(part):
		return per(rows, unlike[columnIn(part)])
	case part.Op >= api.Ne && part.Op <= api.Ge:
		return per(rows, 3)
	}
	return per(rows, 2)
}

// isOfColumns: is it Eq of two columns?
func isOfColumns(part api.Expr) bool {
	return part.Op == api.Eq && part.Args[0].Op == api.Col && part.Args[1].Op == api.Col
}

// isOfColumnAndConst: is it Eq of a column and a constant, either way?
func isOfColumnAndConst(part api.Expr) bool {
	if part.Op != api.Eq {
		return false
	}
	first, second := part.Args[0].Op, part.Args[1].Op
	return first == api.Col && second == api.Const || first == api.Const && second == api.Col
}

// columnIn an Eq of a column and a constant.
func columnIn(part api.Expr) int {
	if part.Args[0].Op == api.Col {
		return part.Args[0].N
	}
	return part.Args[1].N
}
