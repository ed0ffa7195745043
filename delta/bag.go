package delta

import (
	"maps"
	"slices"

	"tallyhouse/api"
	"tallyhouse/cell"
)

// bag of rows: how often each stands in it, by its key. None stands there 0
// times; of a bag that tells what changes some may stand there less often than
// that.
type bag map[string]int64

// add a row so many times, or take it out: how often it stood in the bag, and
// how often it does now.
func (b bag) add(key string, times int64) (int64, int64) {
	before := b[key]
	after := before + times
	if after == 0 {
		delete(b, key)
	} else {
		b[key] = after
	}
	return before, after
}

// addAll of what comes and goes.
func (b bag) addAll(more bag) {
	for key, times := range more {
		b.add(key, times)
	}
}

// counted: the bag of these rows.
func counted(rows [][]api.Value) bag {
	b := bag{}
	for _, row := range rows {
		b.add(cell.Key(row), 1)
	}
	return b
}

// total: how many rows it has.
func (b bag) total() int64 {
	total := int64(0)
	for _, times := range b {
		total += times
	}
	return total
}

// changes: each row once, rising, with how often it stands in the bag; in new
// memory.
func (b bag) changes() []api.Change {
	list := make([]api.Change, 0, len(b))
	for _, key := range slices.Sorted(maps.Keys(b)) {
		list = append(list, api.Change{Row: rowOf(key), Weight: b[key]})
	}
	return list
}

// rows: each as often as it stands in the bag, rising; in new memory.
func (b bag) rows() [][]api.Value {
	var list [][]api.Value
	for _, key := range slices.Sorted(maps.Keys(b)) {
		for range b[key] {
			list = append(list, rowOf(key))
		}
	}
	return list
}

// rowOf a key that is one.
func rowOf(key string) []api.Value {
	row, _ := cell.Row(key)
	return row
}
