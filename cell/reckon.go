package cell

import (
	"math"

	"tallyhouse/api"
)

// Reckon with two numbers: the exact result, or null.
func Reckon(op int, a, b api.Value) api.Value {
	if a.Kind != api.Int || b.Kind != api.Int {
		return api.Value{}
	}
	n, exact := result(op, a.N, b.N)
	if !exact {
		return api.Value{}
	}
	return number(n)
}

func result(op int, x, y int64) (int64, bool) {
	switch op {
	case api.Add:
		return sum(x, y)
	case api.Sub:
		return difference(x, y)
	case api.Mul:
		return product(x, y)
	case api.Div:
		return quotient(x, y)
	case api.Mod:
		return remainder(x, y)
	}
	return 0, false
}

// A sum that has wrapped round lies on the wrong side of x.
func sum(x, y int64) (int64, bool) {
	n := x + y
	return n, (n > x) == (y > 0)
}

func difference(x, y int64) (int64, bool) {
	n := x - y
	return n, (n < x) == (y > 0)
}

func product(x, y int64) (int64, bool) {
	if x == 0 {
		return 0, true
	}
	// -1 times the least number wraps round to it, and so does the division
	// that would show it.
	if x == -1 && y == math.MinInt64 {
		return 0, false
	}
	n := x * y
	return n, n/x == y
}

func quotient(x, y int64) (int64, bool) {
	if y == 0 || x == math.MinInt64 && y == -1 {
		return 0, false
	}
	return x / y, true
}

func remainder(x, y int64) (int64, bool) {
	if y == 0 {
		return 0, false
	}
	return x % y, true
}
