package plan_test

import (
	"math"
	"math/big"
	"math/rand"
	"testing"

	"tallyhouse/plan"
)

// A sum is what it would be in numbers without bounds, whatever comes and goes.
func TestSum(t *testing.T) {
	r := rand.New(rand.NewSource(5))
	numbers := []int64{0, 1, -1, 2, 77, math.MaxInt64, math.MinInt64, math.MaxInt64 - 1, math.MinInt64 + 1}
	times := []int64{1, -1, 2, -3, 1 << 31, -1 << 31, 1<<20 + 1}
	for range 2000 {
		var s plan.Sum
		want, count := new(big.Int), int64(0)
		for range 1 + r.Intn(6) {
			number, often := numbers[r.Intn(len(numbers))], times[r.Intn(len(times))]
			s.Add(n(number), often)
			s.Add(null, often)
			want.Add(want, new(big.Int).Mul(big.NewInt(number), big.NewInt(often)))
			count += often
			value := null
			if count != 0 && want.IsInt64() {
				value = n(want.Int64())
			}
			if s.Count() != count || s.Value() != value {
				t.Fatalf("%d numbers come to %v, not %v and %v", s.Count(), s.Value(), count, want)
			}
		}
	}
}
