package sketch

import (
	"cmp"
	"container/heap"
	"slices"

	"tallyhouse/api"
	"tallyhouse/cell"
)

// Often tells how often values have come, by at most k counters. A value that
// is not counted has come at most floor times; of each counter high is above
// floor, and at most floor above low.
//
// Why floor is at most total / (k + 1): it, k + 1 times, and all that the highs
// have above it are together never above total. For what comes adds as much to
// one high; and where floor rises by n, at least k + 1 highs have n less above
// it.
type Often struct {
	k     int
	total int64
	floor int64
	kept  map[api.Value]*counter
	queue queue
}

// NewOften makes one of k counters.
func NewOften(k int) (*Often, api.Errno) {
	if k < 1 || k > api.MaxSketch {
		return nil, api.ErrArg
	}
	return &Often{k: k, kept: map[api.Value]*counter{}}, api.OK
}

// Add: v has come n times more.
func (o *Often) Add(v api.Value, n int64) api.Errno {
	if n < 0 {
		return api.ErrArg
	}
	if n > mostOften-o.total {
		return api.ErrLarge
	}
	o.total += n
	if n > 0 {
		o.count(cell.Clean(v), n)
	}
	return api.OK
}

func (o *Often) count(v api.Value, n int64) {
	if c, there := o.kept[v]; there {
		c.low += n
		c.high += n
		heap.Fix(&o.queue, c.place)
		return
	}
	c := &counter{value: v, low: n, high: o.floor + n}
	o.kept[v] = c
	heap.Push(&o.queue, c)
	if len(o.queue) > o.k {
		o.raise()
	}
}

// raise the floor up to the lowest counter. All that are as low go, not one of
// them, so that which ones stay does not hang on how they lie.
func (o *Often) raise() {
	o.floor = o.queue[0].high
	for len(o.queue) > 0 && o.queue[0].high == o.floor {
		delete(o.kept, o.queue[0].value)
		heap.Pop(&o.queue)
	}
}

// Merge: all that has come to p has come here, too.
func (o *Often) Merge(p *Often) api.Errno {
	if p == nil || p.k != o.k {
		return api.ErrArg
	}
	if p.total > mostOften-o.total {
		return api.ErrLarge
	}
	both, floor := together(o, p), o.floor+p.floor
	slices.SortFunc(both, func(a, b *counter) int { return cmp.Compare(a.high, b.high) })
	if spare := len(both) - o.k; spare > 0 {
		floor = both[spare-1].high
		both = slices.DeleteFunc(both, func(c *counter) bool { return c.high <= floor })
	}
	o.total += p.total
	o.floor = floor
	o.keep(both)
	return api.OK
}

// together: new counters of all values that are counted in o or in p.
func together(o, p *Often) []*counter {
	var both []*counter
	for _, c := range o.queue {
		low, high := p.bounds(c.value)
		both = append(both, &counter{value: c.value, low: c.low + low, high: c.high + high})
	}
	for _, c := range p.queue {
		if _, there := o.kept[c.value]; !there {
			both = append(both, &counter{value: c.value, low: c.low, high: c.high + o.floor})
		}
	}
	return both
}

// keep these counters instead of those that are there. They rise, which is an
// order that a heap may have.
func (o *Often) keep(counters []*counter) {
	o.queue = counters
	o.kept = map[api.Value]*counter{}
	for i, c := range counters {
		c.place = i
		o.kept[c.value] = c
	}
}

// Total: how often anything has come.
func (o *Often) Total() int64 { return o.total }

// Tell how often v has come: at least and at most.
func (o *Often) Tell(v api.Value) (int64, int64) { return o.bounds(cell.Clean(v)) }

func (o *Often) bounds(v api.Value) (int64, int64) {
	if c, there := o.kept[v]; there {
		return c.low, c.high
	}
	return 0, o.floor
}

// All values that are counted, rising.
func (o *Often) All() []api.Found {
	var all []api.Found
	for _, c := range o.queue {
		all = append(all, api.Found{Value: c.value, Low: c.low, High: c.high})
	}
	slices.SortFunc(all, func(a, b api.Found) int { return cell.Order(a.Value, b.Value) })
	return all
}
