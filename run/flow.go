package run

import (
	"tallyhouse/api"
	"tallyhouse/cell"
	"tallyhouse/vec"
)

// batch of rows, column by column: at least one column, all as long as one
// another. Nobody changes one, so that several may share a column.
type batch []api.Vec

// count of its rows.
func (b batch) count() int {
	if len(b) == 0 {
		return 0
	}
	return len(b[0].Null)
}

// rows of a batch, in new memory.
func (b batch) rows() [][]api.Value {
	// Only what is not good is refused.
	rows, _ := vec.Table(b)
	return rows
}

// places of those rows whose key is wanted.
func (b batch) places(wanted func(key string) bool) []int {
	var places []int
	for i, row := range b.rows() {
		if wanted(cell.Key(row)) {
			places = append(places, i)
		}
	}
	return places
}

// picked: the rows at these places, in this order.
func (b batch) picked(places []int) batch {
	picked := make(batch, len(b))
	for i, column := range b {
		picked[i], _ = vec.Pick(column, places)
	}
	return picked
}

// cut behind so many rows: these, and the others.
func (b batch) cut(count int) (batch, batch) {
	front, back := make(batch, len(b)), make(batch, len(b))
	for i, column := range b {
		front[i] = api.Vec{Kind: column.Kind, Null: column.Null[:count]}
		back[i] = api.Vec{Kind: column.Kind, Null: column.Null[count:]}
		if column.Kind == api.Int {
			front[i].N, back[i].N = column.N[:count], column.N[count:]
		} else {
			front[i].S, back[i].S = column.S[:count], column.S[count:]
		}
	}
	return front, back
}

// flow of the rows of a plan.
type flow interface {
	// next batch of them; one without rows: there are none any more.
	next() (batch, api.Errno)
}

// rows of a flow, one by one: an api.Stream.
type rows struct {
	from  flow
	ahead [][]api.Value // of the batch that was read last
}

// Next row.
func (r *rows) Next() ([]api.Value, bool, api.Errno) {
	if len(r.ahead) == 0 {
		b, e := r.from.next()
		if e != api.OK || b.count() == 0 {
			return nil, false, e
		}
		r.ahead = b.rows()
	}
	row := r.ahead[0]
	r.ahead = r.ahead[1:]
	return row, true, api.OK
}

// each row is handed to take.
func (r *rows) each(take func(row []api.Value)) api.Errno {
	for {
		row, there, e := r.Next()
		if e != api.OK || !there {
			return e
		}
		take(row)
	}
}

// store of rows that go on in batches of at most size.
type store struct {
	kinds []int
	size  int
	rows  [][]api.Value
}

// batch of the first rows, which are taken out of it.
func (s *store) batch() batch {
	count := min(s.size, len(s.rows))
	made := make(batch, len(s.kinds))
	values := make([]api.Value, count)
	for i, kind := range s.kinds {
		for k, row := range s.rows[:count] {
			values[k] = row[i]
		}
		// What a plan means fits its kinds.
		made[i], _ = vec.From(kind, values)
	}
	s.rows = s.rows[count:]
	return made
}
