package sketch

import (
	"slices"
	"sort"

	"tallyhouse/api"
)

// Middle tells how many numbers are not above one, by levels of fewer than c
// numbers each: a number of level i stands for 2^i that have come.
//
// What is counted so is never too much, and at most slack too little. Why slack
// is at most L * total / c: each thinning of level i takes at least c of its
// numbers, which stand for c * 2^i that have come and leave the level for good,
// and adds 2^i to slack: so each level adds at most total / c; and to thin level
// i at all, 2^i must not be above total / c.
type Middle struct {
	c      int
	total  int64
	slack  int64
	levels [][]int64 // each of them rising
}

// NewMiddle makes one with levels of fewer than c numbers.
func NewMiddle(c int) (*Middle, api.Errno) {
	if c < 2 || c > api.MaxSketch || c%2 != 0 {
		return nil, api.ErrArg
	}
	return &Middle{c: c, levels: [][]int64{nil}}, api.OK
}

// Add: x has come once more.
func (m *Middle) Add(x int64) api.Errno {
	if m.total >= mostMiddle {
		return api.ErrLarge
	}
	m.total++
	m.levels[0] = slices.Insert(m.levels[0], notAbove(m.levels[0], x), x)
	m.thin()
	return api.OK
}

// Merge: all that has come to p has come here, too.
func (m *Middle) Merge(p *Middle) api.Errno {
	if p == nil || p.c != m.c {
		return api.ErrArg
	}
	if p.total > mostMiddle-m.total {
		return api.ErrLarge
	}
	m.total += p.total
	m.slack += p.slack
	// All levels are joined before any is thinned, as p may be m itself.
	for i, level := range p.levels {
		m.lay(i, level)
	}
	m.thin()
	return api.OK
}

// thin every level that has become too long.
func (m *Middle) thin() {
	for i := 0; i < len(m.levels); i++ {
		if len(m.levels[i]) >= m.c {
			m.halve(i)
		}
	}
}

// halve level i: the second of each two numbers that follow one another goes a
// level up, and stands there for both. So of those that are not above any x at
// most one is missed, and none is there too many. Of an odd count the last one
// stays, as it has none to stand for.
func (m *Middle) halve(i int) {
	level := m.levels[i]
	even := len(level) - len(level)%2
	var seconds []int64
	for at := 1; at < even; at += 2 {
		seconds = append(seconds, level[at])
	}
	m.levels[i] = append(level[:0], level[even:]...)
	m.lay(i+1, seconds)
	m.slack += 1 << i
}

// lay more numbers in level i, which need not be there yet.
func (m *Middle) lay(i int, more []int64) {
	for len(m.levels) <= i {
		m.levels = append(m.levels, nil)
	}
	m.levels[i] = append(m.levels[i], more...)
	slices.Sort(m.levels[i])
}

// Total: how many have come.
func (m *Middle) Total() int64 { return m.total }

// Rank of x: how many are not above it, at least and at most.
func (m *Middle) Rank(x int64) (int64, int64) {
	var low int64
	for i, level := range m.levels {
		low += int64(notAbove(level, x)) << i
	}
	return low, min(low+m.slack, m.total)
}

// Size: how many numbers are kept.
func (m *Middle) Size() int {
	size := 0
	for _, level := range m.levels {
		size += len(level)
	}
	return size
}

// notAbove: how many numbers of a rising list are not above x.
func notAbove(level []int64, x int64) int {
	return sort.Search(len(level), func(i int) bool { return level[i] > x })
}
