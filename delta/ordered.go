package delta

import (
	"slices"
	"sort"
)

// full: a block of so many entries is cut in two.
const full = 512

// entry of a bag in order.
type entry[T any] struct {
	what  T
	times int64
}

// block of entries that follow one another.
type block[T any] struct {
	entries []entry[T]
	total   int64 // of their times
}

// ordered: a bag in order. It lies in blocks, so that neither to find a place in
// it nor to make room there takes time for all that there is.
type ordered[T any] struct {
	order  func(a, b T) int
	blocks []block[T] // none of them without entries
	size   int        // how many entries there are
}

// find where something stands, or would: its block, its place there, and whether
// it is there. There is a block.
func (o *ordered[T]) find(what T) (int, int, bool) {
	behind := sort.Search(len(o.blocks), func(b int) bool { return o.order(o.blocks[b].entries[0].what, what) > 0 })
	b := max(behind-1, 0)
	i, there := slices.BinarySearchFunc(o.blocks[b].entries, what, func(e entry[T], what T) int { return o.order(e.what, what) })
	return b, i, there
}

// add something so many times, or take it out. It is kept.
func (o *ordered[T]) add(what T, times int64) {
	if len(o.blocks) == 0 {
		o.blocks = []block[T]{{entries: []entry[T]{{what: what}}}}
		o.size++
	}
	b, i, there := o.find(what)
	at := &o.blocks[b]
	if !there {
		at.entries = slices.Insert(at.entries, i, entry[T]{what: what})
		o.size++
	}
	at.total += times
	at.entries[i].times += times
	if at.entries[i].times == 0 {
		at.entries = slices.Delete(at.entries, i, i+1)
		o.size--
	}
	o.tidy(b)
}

// tidy a block that has become empty, or full.
func (o *ordered[T]) tidy(b int) {
	entries := o.blocks[b].entries
	switch len(entries) {
	case 0:
		o.blocks = slices.Delete(o.blocks, b, b+1)
	case full:
		front, back := newBlock(entries[:full/2]), newBlock(entries[full/2:])
		o.blocks = slices.Replace(o.blocks, b, b+1, front, back)
	}
}

// newBlock of these entries, in new memory.
func newBlock[T any](entries []entry[T]) block[T] {
	made := block[T]{entries: slices.Clone(entries)}
	for _, e := range entries {
		made.total += e.times
	}
	return made
}

// ahead: how many are ahead of it.
func (o *ordered[T]) ahead(what T) int64 {
	if len(o.blocks) == 0 {
		return 0
	}
	b, i, _ := o.find(what)
	count := int64(0)
	for _, block := range o.blocks[:b] {
		count += block.total
	}
	for _, e := range o.blocks[b].entries[:i] {
		count += e.times
	}
	return count
}

// each of those that stand from this place on, up to but without that one, with
// how many of them are like it.
func (o *ordered[T]) each(from, to int64, take func(what T, times int64)) {
	start := int64(0)
	for _, block := range o.blocks {
		if start >= to {
			return
		}
		end := start + block.total
		if end > from {
			block.each(from-start, to-start, take)
		}
		start = end
	}
}

func (b block[T]) each(from, to int64, take func(what T, times int64)) {
	start := int64(0)
	for _, e := range b.entries {
		end := start + e.times
		if times := min(end, to) - max(start, from); times > 0 {
			take(e.what, times)
		}
		start = end
	}
}

// ends: the first one and the last one; false, if there is none.
func (o *ordered[T]) ends() (T, T, bool) {
	if o.size == 0 {
		var none T
		return none, none, false
	}
	last := o.blocks[len(o.blocks)-1].entries
	return o.blocks[0].entries[0].what, last[len(last)-1].what, true
}
