package run

import (
	"slices"

	"tallyhouse/api"
	"tallyhouse/seg"
)

// scan of a table, segment by segment.
type scan struct {
	source     api.Source
	table      string
	kinds      []int
	conditions []api.Expr // no row matters for which one of them is not true
	segments   int        // how many there are
	asked      int        // how many of them have been asked for
	rest       batch      // what has not gone on of the last one that was read
	size       int        // the most rows of a batch
}

func (s *scan) next() (batch, api.Errno) {
	for s.rest.count() == 0 {
		if s.asked >= s.segments {
			return nil, api.OK
		}
		if e := s.ask(); e != api.OK {
			return nil, e
		}
	}
	front, rest := s.rest.cut(min(s.size, s.rest.count()))
	s.rest = rest
	return front, api.OK
}

// ask for the next segment, and read it, if a row of it may matter.
func (s *scan) ask() api.Errno {
	k := s.asked
	s.asked++
	head, e := s.source.Head(s.table, k)
	if e != api.OK || s.isNeedless(head) {
		return e
	}
	text, e := s.source.Read(s.table, k)
	if e != api.OK {
		return e
	}
	columns, e := seg.Columns(text)
	if e != api.OK || !slices.EqualFunc(columns, s.kinds, isOfKind) {
		return api.ErrDamage
	}
	s.rest = columns
	return api.OK
}

// isNeedless: is a condition certainly true of no row of a segment of which
// this is told?
func (s *scan) isNeedless(head api.Head) bool {
	return slices.ContainsFunc(s.conditions, func(condition api.Expr) bool {
		may, e := seg.May(s.kinds, head, condition)
		return e == api.OK && !may
	})
}

func isOfKind(column api.Vec, kind int) bool { return column.Kind == kind }
