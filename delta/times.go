package delta

import (
	"tallyhouse/api"
	"tallyhouse/cell"
)

// distinct: each row once.
type distinct struct {
	from operator
	rows bag // all that there are
}

func (d distinct) step(in changes, take taker) {
	d.from.step(in, func(row []api.Value, times int64) {
		before, after := d.rows.add(cell.Key(row), times)
		if more := atMostOnce(after) - atMostOnce(before); more != 0 {
			take(row, more)
		}
	})
}

func atMostOnce(times int64) int64 { return min(max(times, 0), 1) }

// minus: of each row as many as there are more of the one than of the other.
type minus struct {
	from operator
	less operator
	rest bag // how many more there are; it may be below 0
}

func (m minus) step(in changes, take taker) {
	change := func(row []api.Value, times int64) {
		before, after := m.rest.add(cell.Key(row), times)
		if more := max(after, 0) - max(before, 0); more != 0 {
			take(row, more)
		}
	}
	m.from.step(in, change)
	m.less.step(in, func(row []api.Value, times int64) { change(row, -times) })
}
