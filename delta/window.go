package delta

import (
	"slices"

	"tallyhouse/api"
	"tallyhouse/cell"
	"tallyhouse/plan"
)

// window: each row, and what a function says of it in its part.
type window struct {
	from  operator
	plan  api.Plan
	parts map[string]*ordered[[]api.Value]
}

func newWindow(p api.Plan, from operator) *window {
	return &window{from: from, plan: p, parts: map[string]*ordered[[]api.Value]{}}
}

func (w *window) step(in changes, take taker) {
	byPart := map[string][]api.Change{}
	for key, times := range gathered(w.from, in) {
		row := rowOf(key)
		part := cell.Key(plan.At(row, w.plan.Cols))
		byPart[part] = append(byPart[part], api.Change{Row: row, Weight: times})
	}
	for key, list := range byPart {
		w.change(key, list, take)
	}
}

// change a part. Where its rows say the same as ahead, at its front and at its
// end, nothing is handed on.
func (w *window) change(key string, list []api.Change, take taker) {
	rows := w.parts[key]
	if rows == nil {
		rows = &ordered[[]api.Value]{order: plan.InOrder(w.plan.Keys)}
		w.parts[key] = rows
	}
	before := w.shown(rows)
	for _, c := range list {
		rows.add(c.Row, c.Weight)
	}
	after := w.shown(rows)
	if rows.size == 0 {
		delete(w.parts, key)
	}
	front := sameAtFront(before, after)
	before, after = before.cut(front, 0), after.cut(front, 0)
	end := sameAtEnd(before, after)
	before.cut(0, end).each(-1, take)
	after.cut(0, end).each(1, take)
}

// shown: rows of a part, in order, and what the function says of each.
type shown struct {
	rows   [][]api.Value
	values []api.Value
}

func (w *window) shown(part *ordered[[]api.Value]) shown {
	var s shown
	part.each(0, beyond, func(row []api.Value, times int64) {
		for range times {
			s.rows = append(s.rows, row)
		}
	})
	s.values = plan.InPart(w.plan, s.rows)
	return s
}

// cut off so many at the front and at the end.
func (s shown) cut(front, end int) shown {
	stop := len(s.rows) - end
	return shown{rows: s.rows[front:stop], values: s.values[front:stop]}
}

// each row, with what is said of it, is handed to take.
func (s shown) each(times int64, take taker) {
	var longer []api.Value
	for i, row := range s.rows {
		longer = append(append(longer[:0], row...), s.values[i])
		take(longer, times)
	}
}

// same: is the i-th row of s, and what is said of it, the k-th of t?
func (s shown) same(i int, t shown, k int) bool {
	return s.values[i] == t.values[k] && slices.Equal(s.rows[i], t.rows[k])
}

func sameAtFront(s, t shown) int {
	count := 0
	for count < min(len(s.rows), len(t.rows)) && s.same(count, t, count) {
		count++
	}
	return count
}

func sameAtEnd(s, t shown) int {
	count := 0
	for count < min(len(s.rows), len(t.rows)) && s.same(len(s.rows)-1-count, t, len(t.rows)-1-count) {
		count++
	}
	return count
}
