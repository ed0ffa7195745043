package tally

import (
	"slices"

	"tallyhouse/api"
	"tallyhouse/cell"
	"tallyhouse/cost"
	"tallyhouse/seg"
)

// mostRows of a table.
const mostRows = 1 << 20

// segment of a table, with what is told of it.
type segment struct {
	text string
	head api.Head
}

// table of a machine.
type table struct {
	name     string
	columns  []api.Column
	segments []segment // none without rows
	numbers  *api.Stat // of its rows; nil: they are not known
}

// shape of a table: all of it but its rows.
func (t *table) shape() api.Table {
	return api.Table{Name: t.name, Columns: slices.Clone(t.columns)}
}

// whole table, with its rows.
func (t *table) whole() api.Table {
	whole := t.shape()
	whole.Rows = t.rows(t.segments)
	return whole
}

// count of its rows.
func (t *table) count() int {
	count := 0
	for _, s := range t.segments {
		count += s.head.Rows
	}
	return count
}

// rows of some segments, in their order.
func (t *table) rows(segments []segment) [][]api.Value {
	var all []int
	for i := range t.columns {
		all = append(all, i)
	}
	var rows [][]api.Value
	for _, s := range segments {
		// What was built can be read.
		more, _ := seg.Read(s.text, all)
		rows = append(rows, more...)
	}
	return rows
}

// laid: rows that fit the table, in as few segments of at most so many as can
// be.
func (t *table) laid(rows [][]api.Value, size int) []segment {
	var kinds []int
	for _, column := range t.columns {
		kinds = append(kinds, column.Kind)
	}
	var segments []segment
	for some := range slices.Chunk(rows, size) {
		// Rows that fit are not refused.
		text, _ := seg.Build(kinds, some)
		head, _ := seg.Head(text)
		segments = append(segments, segment{text, head})
	}
	return segments
}

// become these segments.
func (t *table) become(segments []segment) { t.segments, t.numbers = segments, nil }

// add rows that fit it, in segments of at most so many. The last segments are
// laid anew where they have no more rows than come and there is room for both in
// one: so rows that come one by one lie in few segments, and yet none of them is
// laid anew often.
func (t *table) add(rows [][]api.Value, size int) {
	last, count := len(t.segments), len(rows)
	for last > 0 && t.segments[last-1].head.Rows <= min(count, size-count) {
		last--
		count += t.segments[last].head.Rows
	}
	again := slices.Concat(t.rows(t.segments[last:]), rows)
	t.become(append(t.segments[:last], t.laid(again, size)...))
}

// without these rows: its segments, if each of them goes once; false, if it has
// one of them less often.
func (t *table) without(rows [][]api.Value) ([]segment, bool) {
	lots := t.laid(rows, api.MaxRows)
	going := map[string]int{}
	for _, row := range rows {
		going[cell.Key(row)]++
	}
	var segments []segment
	for _, s := range t.segments {
		if len(going) > 0 && mayBeAmong(s, lots) {
			s = t.freed(s, going)
		}
		if s.head.Rows > 0 {
			segments = append(segments, s)
		}
	}
	return segments, len(going) == 0
}

// freed: a segment without the rows that are going, as far as it has them; they
// are going no more.
func (t *table) freed(s segment, going map[string]int) segment {
	var left [][]api.Value
	for _, row := range t.rows([]segment{s}) {
		key := cell.Key(row)
		switch going[key] {
		case 0:
			left = append(left, row)
		case 1:
			delete(going, key)
		default:
			going[key]--
		}
	}
	if len(left) == 0 {
		return segment{}
	}
	if len(left) == s.head.Rows {
		return s
	}
	return t.laid(left, api.MaxRows)[0]
}

// mayBeAmong: may a row of the segment stand in one of the others, too?
func mayBeAmong(s segment, others []segment) bool {
	return slices.ContainsFunc(others, func(other segment) bool { return mayMeet(s.head, other.head) })
}

// mayMeet: may a row stand in two segments of which this is told?
func mayMeet(a, b api.Head) bool {
	for i := range a.Nulls {
		bothNull := a.Nulls[i] > 0 && b.Nulls[i] > 0
		apart := cell.Order(a.High[i], b.Low[i]) < 0 || cell.Order(b.High[i], a.Low[i]) < 0
		if !bothNull && apart {
			return false
		}
	}
	return true
}

// stat of its rows, in new memory. They are counted only once, until they
// change.
func (t *table) stat() api.Stat {
	if t.numbers == nil {
		stats, _ := cost.Stats([]api.Table{t.whole()})
		t.numbers = &stats[0]
	}
	stat := *t.numbers
	stat.Each, stat.Nulls = slices.Clone(stat.Each), slices.Clone(stat.Nulls)
	return stat
}
