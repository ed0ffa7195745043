package plan

import (
	"math/bits"

	"tallyhouse/api"
)

// sum of numbers, and how many values that are not null it has. It is held in
// 128 bits: what does not fit into 64 bits may come to fit with more numbers.
type sum struct {
	high, low uint64
	count     int
}

func (s *sum) add(v api.Value) {
	if v.Kind == api.Null {
		return
	}
	var carry uint64
	s.low, carry = bits.Add64(s.low, uint64(v.N), 0)
	s.high, _ = bits.Add64(s.high, signOf(v.N), carry)
	s.count++
}

func (s *sum) remove(v api.Value) {
	if v.Kind == api.Null {
		return
	}
	var borrow uint64
	s.low, borrow = bits.Sub64(s.low, uint64(v.N), 0)
	s.high, _ = bits.Sub64(s.high, signOf(v.N), borrow)
	s.count--
}

// signOf a number: what its high bits are in 128 bits.
func signOf(n int64) uint64 { return uint64(n >> 63) }

// value: null, if there was none, or the sum is no number of 64 bits.
func (s *sum) value() api.Value {
	if s.count == 0 || s.high != signOf(int64(s.low)) {
		return api.Value{}
	}
	return api.Value{Kind: api.Int, N: int64(s.low)}
}
