package expr

import (
	"tallyhouse/api"
	"tallyhouse/cell"
)

func isNoKind(kind int) bool { return kind != api.Int && kind != api.Text }

// kindOver these columns of an expression that is built and has no others;
// false, if a part does not fit.
func kindOver(e api.Expr, kinds []int) (int, bool) {
	switch e.Op {
	case api.Col:
		return kinds[e.N], true
	case api.Const:
		return cell.Clean(e.V).Kind, true
	}
	parts := make([]int, len(e.Args))
	for i, part := range e.Args {
		kind, fits := kindOver(part, kinds)
		if !fits {
			return 0, false
		}
		parts[i] = kind
	}
	return kindOf(e.Op, parts)
}

// kindOf an operator over parts of these kinds; false, if one does not fit.
func kindOf(op int, parts []int) (int, bool) {
	switch {
	case op == api.IsNull:
		return api.Int, true
	case op == api.Len:
		return api.Int, allFit(api.Text, parts)
	case op == api.Cat:
		return api.Text, allFit(api.Text, parts)
	case op >= api.Eq && op <= api.Ge:
		_, alike := common(parts[0], parts[1])
		return api.Int, alike
	case op == api.If:
		kind, alike := common(parts[1], parts[2])
		return kind, alike && allFit(api.Int, parts[:1])
	}
	return api.Int, allFit(api.Int, parts)
}

func allFit(kind int, parts []int) bool {
	for _, part := range parts {
		if part != kind && part != api.Null {
			return false
		}
	}
	return true
}

// common kind of two: Null is of every kind.
func common(a, b int) (int, bool) {
	if a == api.Null {
		return b, true
	}
	return a, b == api.Null || a == b
}
