package sketch

import "tallyhouse/api"

// counter of a value, which has come at least low and at most high times. Low
// is what has come since the value is counted, high that and all that may have
// come before.
type counter struct {
	value api.Value
	low   int64
	high  int64
	place int
}

// queue of counters: a heap with the lowest high first, in which each counter
// knows its place.
type queue []*counter

func (q queue) Len() int { return len(q) }

func (q queue) Less(i, j int) bool { return q[i].high < q[j].high }

func (q queue) Swap(i, j int) {
	q[i], q[j] = q[j], q[i]
	q[i].place, q[j].place = i, j
}

// Push a counter behind the others, as package heap asks for it.
func (q *queue) Push(c any) {
	last := c.(*counter)
	last.place = len(*q)
	*q = append(*q, last)
}

// Pop the last counter, likewise.
func (q *queue) Pop() any {
	end := len(*q) - 1
	last := (*q)[end]
	(*q)[end] = nil
	*q = (*q)[:end]
	return last
}
