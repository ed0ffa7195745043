package run

import (
	"tallyhouse/api"
	"tallyhouse/cell"
	"tallyhouse/expr"
	"tallyhouse/vec"
)

// sieve: of each batch the rows at those places that stay tells.
type sieve struct {
	from flow
	stay func(b batch) []int
}

func (s sieve) next() (batch, api.Errno) {
	for {
		b, e := s.from.next()
		if e != api.OK || b.count() == 0 {
			return nil, e
		}
		if places := s.stay(b); len(places) > 0 {
			return b.picked(places), api.OK
		}
	}
}

// ifTrue: the rows for which a condition is true stay.
func ifTrue(condition api.Expr) func(b batch) []int {
	return func(b batch) []int {
		// A condition that has been checked is not refused.
		truths, _ := expr.Over(condition, b, b.count())
		return vec.Places(truths)
	}
}

// once: a row stays the first time that it comes.
func once() func(b batch) []int {
	times := map[string]int{}
	return func(b batch) []int {
		return b.places(func(key string) bool {
			times[key]++
			return times[key] == 1
		})
	}
}

// minus: each row that is to be less takes one like it away, if there is one.
type minus struct {
	from flow
	less rows
	gone map[string]int // how many of each are to be taken away; nil: that is not known yet
}

func (m *minus) next() (batch, api.Errno) {
	if m.gone == nil {
		if e := m.read(); e != api.OK {
			return nil, e
		}
	}
	return sieve{from: m.from, stay: m.left}.next()
}

func (m *minus) read() api.Errno {
	m.gone = map[string]int{}
	return m.less.each(func(row []api.Value) { m.gone[cell.Key(row)]++ })
}

// left: the places of those rows that are not taken away.
func (m *minus) left(b batch) []int {
	return b.places(func(key string) bool {
		if m.gone[key] > 0 {
			m.gone[key]--
			return false
		}
		return true
	})
}

// project: of each row what some expressions come to.
type project struct {
	from  flow
	exprs []api.Expr
}

func (p project) next() (batch, api.Errno) {
	b, e := p.from.next()
	if e != api.OK || b.count() == 0 {
		return nil, e
	}
	worked := make(batch, len(p.exprs))
	for i, one := range p.exprs {
		worked[i], _ = expr.Over(one, b, b.count())
	}
	return worked, api.OK
}

// union of flows, one behind the other.
type union struct {
	from []flow
}

func (u *union) next() (batch, api.Errno) {
	for len(u.from) > 0 {
		b, e := u.from[0].next()
		if e != api.OK || b.count() > 0 {
			return b, e
		}
		u.from = u.from[1:]
	}
	return nil, api.OK
}
