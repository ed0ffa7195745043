package delta

import (
	"tallyhouse/api"
	"tallyhouse/plan"
)

// beyond: no plan means so many rows.
const beyond = 1 << 40

// top: of all rows in order those from one place on up to another one.
type top struct {
	from operator
	rows *ordered[[]api.Value]
	off  int64
	end  int64
}

func newTop(p api.Plan, from operator) *top {
	off := min(int64(p.Off), beyond)
	return &top{
		from: from,
		rows: &ordered[[]api.Value]{order: plan.InOrder(p.Keys)},
		off:  off,
		end:  off + min(int64(p.N), beyond),
	}
}

func (t *top) step(in changes, take taker) {
	sum := gathered(t.from, in)
	// To find a place all blocks are gone by: of many changes at a time it is
	// less to look at all rows.
	if len(sum)*len(t.rows.blocks) >= t.rows.size {
		t.changeAll(sum, take)
		return
	}
	for key, times := range sum {
		t.change(rowOf(key), times, take)
	}
}

// changeAll that changes, at once.
func (t *top) changeAll(sum bag, take taker) {
	t.rows.each(t.off, t.end, taken(take))
	for key, times := range sum {
		t.rows.add(rowOf(key), times)
	}
	t.rows.each(t.off, t.end, take)
}

// taken: rows that come so go.
func taken(take taker) taker {
	return func(row []api.Value, times int64) { take(row, -times) }
}

// change: so many rows like this one come, or go, and those behind them move by
// as many places. Of what is seen from there on, so many at the front are seen
// only with these rows, and so many at the end only without them.
func (t *top) change(row []api.Value, times int64, take taker) {
	count := max(times, -times)
	from := max(t.rows.ahead(row), t.off)
	front := func(take taker) { t.rows.each(from, min(from+count, t.end), take) }
	back := func(take taker) { t.rows.each(max(from, t.end-count), t.end, take) }
	before, after := back, front
	if times < 0 {
		before, after = front, back
	}
	before(taken(take))
	t.rows.add(row, times)
	after(take)
}
