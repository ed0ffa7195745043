// Package cell: see ../../shared/doc/01-cell.md.
package cell

import (
	"cmp"
	"slices"
	"strings"

	"tallyhouse/api"
)

// Clean: what v counts for.
func Clean(v api.Value) api.Value {
	switch v.Kind {
	case api.Int:
		return number(v.N)
	case api.Text:
		return text(v.S)
	}
	return api.Value{}
}

func number(n int64) api.Value { return api.Value{Kind: api.Int, N: n} }

func text(s string) api.Value { return api.Value{Kind: api.Text, S: s} }

func isNull(v api.Value) bool { return v.Kind != api.Int && v.Kind != api.Text }

// Order of two values: -1, 0 or 1.
func Order(a, b api.Value) int {
	// The numbers of the kinds stand in the order of the kinds, and clean
	// values of one kind differ only in the field that this kind needs.
	a, b = Clean(a), Clean(b)
	return cmp.Or(cmp.Compare(a.Kind, b.Kind), cmp.Compare(a.N, b.N), strings.Compare(a.S, b.S))
}

// Rows: the order of two rows: -1, 0 or 1.
func Rows(a, b []api.Value) int { return slices.CompareFunc(a, b, Order) }

// Test compares: the number 1 or 0, or null.
func Test(op int, a, b api.Value) api.Value {
	if isNull(a) || isNull(b) {
		return api.Value{}
	}
	order := Order(a, b)
	switch op {
	case api.Eq:
		return truth(order == 0)
	case api.Ne:
		return truth(order != 0)
	case api.Lt:
		return truth(order < 0)
	case api.Le:
		return truth(order <= 0)
	case api.Gt:
		return truth(order > 0)
	case api.Ge:
		return truth(order >= 0)
	}
	return api.Value{}
}

// Cat: b's text behind a's, or null.
func Cat(a, b api.Value) api.Value {
	if a.Kind != api.Text || b.Kind != api.Text || len(a.S)+len(b.S) > api.MaxText {
		return api.Value{}
	}
	return text(a.S + b.S)
}
