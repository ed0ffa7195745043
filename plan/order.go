package plan

import (
	"math"
	"slices"

	"tallyhouse/api"
	"tallyhouse/cell"
)

// fewest rows that are gathered ahead of looking which of them are first.
const fewest = 1024

// byKeys: the order of two rows by these columns alone.
func byKeys(keys []api.Key) func(a, b []api.Value) int {
	return func(a, b []api.Value) int {
		for _, key := range keys {
			order := cell.Order(a[key.Col], b[key.Col])
			if key.Desc {
				order = -order
			}
			if order != 0 {
				return order
			}
		}
		return 0
	}
}

// inOrder: the order of two rows by these columns, then by all of them.
func inOrder(keys []api.Key) func(a, b []api.Value) int {
	ahead := byKeys(keys)
	return func(a, b []api.Value) int {
		if order := ahead(a, b); order != 0 {
			return order
		}
		return cell.Rows(a, b)
	}
}

// eachFirst: of the rows in order N, behind the first Off. Only those that may
// still be among them are held.
func (n *node) eachFirst(take taker) {
	p := n.plan
	// Both are not below 0, but they may be more than an int together.
	end := p.N + min(p.Off, math.MaxInt-p.N)
	order := inOrder(p.Keys)
	var first [][]api.Value
	keepFirst := func() {
		slices.SortFunc(first, order)
		first = slices.Delete(first, min(end, len(first)), len(first))
	}
	n.args[0].each(func(row []api.Value) {
		first = append(first, slices.Clone(row))
		if len(first)/2 >= max(end, fewest) {
			keepFirst()
		}
	})
	keepFirst()
	for _, row := range first[min(p.Off, len(first)):] {
		take(row)
	}
}
