package plan

import (
	"math/bits"

	"tallyhouse/api"
)

// Integer: the number as a value.
func Integer(n int64) api.Value { return api.Value{Kind: api.Int, N: n} }

// Sum of numbers, and how many values that are not null it has. It is held in
// 128 bits: what does not fit into 64 bits may come to fit with more numbers.
type Sum struct {
	high, low uint64
	count     int64
}

// Add a value so many times; below 0 it goes again.
func (s *Sum) Add(v api.Value, times int64) {
	if v.Kind == api.Null {
		return
	}
	high, low := product(v.N, times)
	var carry uint64
	s.low, carry = bits.Add64(s.low, low, 0)
	s.high, _ = bits.Add64(s.high, high, carry)
	s.count += times
}

// product of two numbers, in 128 bits.
func product(a, b int64) (uint64, uint64) {
	high, low := bits.Mul64(uint64(a), uint64(b))
	// Each of them that is below 0 was taken for one that is 2^64 greater.
	return high - signOf(a)&uint64(b) - signOf(b)&uint64(a), low
}

// signOf a number: what its high bits are in 128 bits.
func signOf(n int64) uint64 { return uint64(n >> 63) }

// Count of the values that are not null.
func (s *Sum) Count() int64 { return s.count }

// Value: null, if there was none, or the sum is no number of 64 bits.
func (s *Sum) Value() api.Value {
	if s.count == 0 || s.high != signOf(int64(s.low)) {
		return api.Value{}
	}
	return Integer(int64(s.low))
}
