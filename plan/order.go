package plan

import (
	"math"
	"slices"

	"tallyhouse/api"
	"tallyhouse/cell"
)

// fewest rows that are gathered ahead of looking which of them are first.
const fewest = 1024

// byKeys: the order of two rows by these columns alone.
func byKeys(keys []api.Key) func(a, b []api.Value) int {
	return func(a, b []api.Value) int {
		for _, key := range keys {
			order := cell.Order(a[key.Col], b[key.Col])
			if key.Desc {
				order = -order
			}
			if order != 0 {
				return order
			}
		}
		return 0
	}
}

// InOrder: the order of two rows by these columns, then by all of them.
func InOrder(keys []api.Key) func(a, b []api.Value) int {
	ahead := byKeys(keys)
	return func(a, b []api.Value) int {
		if order := ahead(a, b); order != 0 {
			return order
		}
		return cell.Rows(a, b)
	}
}

// first rows of a Top, in order. Only those that may still be among them are
// held.
type first struct {
	order func(a, b []api.Value) int
	off   int // how many of them are left out
	end   int // how many they are, with these
	rows  [][]api.Value
}

func newFirst(p api.Plan) *first {
	// Both are not below 0, but they may be more than an int together.
	return &first{order: InOrder(p.Keys), off: p.Off, end: p.N + min(p.Off, math.MaxInt-p.N)}
}

// Add a row.
func (f *first) Add(row []api.Value) {
	f.rows = append(f.rows, slices.Clone(row))
	if len(f.rows)/2 >= max(f.end, fewest) {
		f.keep()
	}
}

// keep the first ones alone.
func (f *first) keep() {
	slices.SortFunc(f.rows, f.order)
	f.rows = slices.Delete(f.rows, min(f.end, len(f.rows)), len(f.rows))
}

// Rows: N of them, behind the first Off.
func (f *first) Rows() [][]api.Value {
	f.keep()
	return f.rows[min(f.off, len(f.rows)):]
}
