package tally

import (
	"maps"
	"slices"

	"tallyhouse/api"
)

// shelf: tables by their names, as a source of segments.
type shelf map[string]*table

// Tables without their rows, by name rising.
func (s shelf) Tables() []api.Table {
	var tables []api.Table
	for _, name := range slices.Sorted(maps.Keys(s)) {
		tables = append(tables, s[name].shape())
	}
	return tables
}

// Count of a table's segments.
func (s shelf) Count(table string) int {
	t, there := s[table]
	if !there {
		return 0
	}
	return len(t.segments)
}

// at: the segment k of a table.
func (s shelf) at(table string, k int) (segment, api.Errno) {
	if k < 0 || k >= s.Count(table) {
		return segment{}, api.ErrAbsent
	}
	return s[table].segments[k], api.OK
}

// Head of a segment.
func (s shelf) Head(table string, k int) (api.Head, api.Errno) {
	found, e := s.at(table, k)
	return found.head, e
}

// Read a segment.
func (s shelf) Read(table string, k int) (string, api.Errno) {
	found, e := s.at(table, k)
	return found.text, e
}

// whole: these tables with their rows.
func (s shelf) whole(tables []api.Table) []api.Table {
	var whole []api.Table
	for _, table := range tables {
		whole = append(whole, s[table.Name].whole())
	}
	return whole
}

// stats of these tables.
func (s shelf) stats(tables []api.Table) []api.Stat {
	var stats []api.Stat
	for _, table := range tables {
		stats = append(stats, s[table.Name].stat())
	}
	return stats
}
