package pack

import (
	"math/bits"
	"slices"

	"tallyhouse/api"
	"tallyhouse/cell"
)

// column: what a packed column says.
type column struct {
	scheme int
	kind   int
	values []api.Value
}

// damage is thrown where bytes stand that are never written so.
type damage struct{}

// ensure that the bytes are as they are written.
func ensure(so bool) {
	if !so {
		panic(damage{})
	}
}

// opened: what the packed column s says; ErrDamage, if it is none.
func opened(s string) (c column, e api.Errno) {
	defer func() {
		thrown := recover()
		if thrown == nil {
			return
		}
		if _, own := thrown.(damage); !own {
			panic(thrown)
		}
		c, e = column{}, api.ErrDamage
	}()
	r := reader{rest: s}
	return r.column(), api.OK
}

// reader of packed bytes: rest is what it has not read yet.
type reader struct {
	rest string
}

// take the next so many bytes.
func (r *reader) take(size int) string {
	ensure(size <= len(r.rest))
	taken := r.rest[:size]
	r.rest = r.rest[size:]
	return taken
}

// number of so many bytes, the high one first.
func (r *reader) number(size int) uint64 {
	var number uint64
	for _, b := range []byte(r.take(size)) {
		number = number<<8 | uint64(b)
	}
	return number
}

// bits: a function that tells, call by call, so many numbers of width bits.
func (r *reader) bits(count, width int) func() uint64 {
	s := r.take(bytesFor(count, width))
	if filled := count * width % 8; filled > 0 {
		ensure(s[len(s)-1]>>filled == 0)
	}
	place := 0
	return func() uint64 {
		var number uint64
		for done := 0; done < width; {
			used := place % 8
			step := min(8-used, width-done)
			piece := s[place/8] >> used & (1<<step - 1)
			number |= uint64(piece) << done
			place += step
			done += step
		}
		return number
	}
}

func (r *reader) column() column {
	scheme := int(r.number(tagBytes))
	kind := int(r.number(tagBytes))
	ensure(kind == api.Int || kind == api.Text)
	count := r.number(countBytes)
	ensure(count <= api.MaxRows)
	null, nulls := r.nulls(int(count))
	values := r.values(scheme, kind, int(count)-nulls)
	ensure(r.rest == "")
	return column{scheme: scheme, kind: kind, values: spread(null, values)}
}

// nulls: which of so many values are null, and how many.
func (r *reader) nulls(count int) ([]bool, int) {
	null := make([]bool, count)
	mark := r.number(tagBytes)
	ensure(mark <= 1)
	if mark == 0 {
		return null, 0
	}
	nulls := 0
	next := r.bits(count, 1)
	for i := range null {
		if next() == 1 {
			null[i] = true
			nulls++
		}
	}
	ensure(nulls > 0)
	return null, nulls
}

// spread the values over the places that are not null.
func spread(null []bool, values []api.Value) []api.Value {
	all := make([]api.Value, len(null))
	next := 0
	for i, none := range null {
		if !none {
			all[i] = values[next]
			next++
		}
	}
	return all
}

// values by a scheme, so many, none of them null.
func (r *reader) values(scheme, kind, count int) []api.Value {
	switch scheme {
	case byPlain:
		return r.plains(kind, count)
	case byRuns:
		return r.runs(kind, count)
	case byWords:
		return r.words(kind, count)
	}
	ensure(scheme == byOffsets && kind == api.Int)
	return r.offsets(count)
}

func (r *reader) plain(kind int) api.Value {
	if kind == api.Int {
		return api.Value{Kind: api.Int, N: int64(r.number(numberBytes))}
	}
	size := r.number(sizeBytes)
	ensure(size <= api.MaxText)
	return api.Value{Kind: api.Text, S: r.take(int(size))}
}

func (r *reader) plains(kind, count int) []api.Value {
	var values []api.Value
	for range count {
		values = append(values, r.plain(kind))
	}
	return values
}

func (r *reader) runs(kind, count int) []api.Value {
	var values []api.Value
	for range r.number(countBytes) {
		size := r.number(countBytes)
		value := r.plain(kind)
		ensure(size > 0 && size <= uint64(count-len(values)))
		// Equal values behind one another are one run, not two.
		ensure(len(values) == 0 || values[len(values)-1] != value)
		values = append(values, slices.Repeat([]api.Value{value}, int(size))...)
	}
	ensure(len(values) == count)
	return values
}

func (r *reader) words(kind, count int) []api.Value {
	words := r.plains(kind, int(r.number(sizeBytes)))
	for i := range words {
		ensure(i == 0 || cell.Order(words[i-1], words[i]) < 0)
	}
	next := r.bits(count, widthOf(len(words)))
	used := make([]bool, len(words))
	values := make([]api.Value, count)
	for i := range values {
		k := next()
		ensure(k < uint64(len(words)))
		used[k] = true
		values[i] = words[k]
	}
	ensure(!slices.Contains(used, false))
	return values
}

func (r *reader) offsets(count int) []api.Value {
	least := int64(r.number(numberBytes))
	width := int(r.number(tagBytes))
	ensure(width <= 64)
	next := r.bits(count, width)
	values := make([]api.Value, count)
	nearest, greatest := ^uint64(0), uint64(0)
	for i := range values {
		above := next()
		nearest, greatest = min(nearest, above), max(greatest, above)
		n := int64(uint64(least) + above)
		// A sum that is no number of 64 bits wraps round to below the least.
		ensure(n >= least)
		values[i] = api.Value{Kind: api.Int, N: n}
	}
	ensure(width == bits.Len64(greatest))
	if count == 0 {
		ensure(least == 0)
	} else {
		ensure(nearest == 0)
	}
	return values
}
