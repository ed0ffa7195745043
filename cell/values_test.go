package cell_test

import (
	"math"
	"strings"

	"tallyhouse/api"
)

var null api.Value

func n(x int64) api.Value { return api.Value{Kind: api.Int, N: x} }

func s(x string) api.Value { return api.Value{Kind: api.Text, S: x} }

// rising: unlike clean values, each ahead of the next one.
func rising() []api.Value {
	return []api.Value{
		null,
		n(math.MinInt64), n(math.MinInt64 + 1), n(-1 << 32), n(-256), n(-1), n(0), n(1), n(255), n(256), n(1 << 32), n(math.MaxInt64),
		s(""), s("\x00"), s("\x00\x00"), s("\x00\x01"), s("\x00\xff"), s("\x01"), s("\x01\x00"), s("1"), s("a"), s("a\x00"), s("a\x00\x01"), s("a\x00b"), s("a\x01"), s("ab"), s("b"), s("\xff"), s("\xff\x00"), s("\xff\xff"),
	}
}

// soiled: values that count for v, with what v's kind does not need filled in.
func soiled(v api.Value) []api.Value {
	switch v.Kind {
	case api.Int:
		return []api.Value{v, {Kind: api.Int, N: v.N, S: "x"}}
	case api.Text:
		return []api.Value{v, {Kind: api.Text, N: 3, S: v.S}, {Kind: api.Text, N: -1, S: v.S}}
	}
	out := []api.Value{v}
	for _, kind := range []int{api.Null, -1, 3, 7, math.MinInt, math.MaxInt} {
		out = append(out, api.Value{Kind: kind, N: 5, S: "x"})
	}
	return out
}

// eachPair hands over all pairs of rising values, in all their soiled forms,
// with the places at which they stand.
func eachPair(do func(i, k int, a, b api.Value)) {
	l := rising()
	for i := range l {
		for k := range l {
			for _, a := range soiled(l[i]) {
				for _, b := range soiled(l[k]) {
					do(i, k, a, b)
				}
			}
		}
	}
}

// otherOps: numbers of operators, real ones and others, beside those from first to last.
func otherOps(first, last int) []int {
	out := []int{math.MinInt, math.MaxInt, -first, 1 << 32, 1<<32 + first}
	for op := -1; op < 30; op++ {
		if op < first || op > last {
			out = append(out, op)
		}
	}
	return out
}

func sign(x int) int {
	if x < 0 {
		return -1
	}
	if x > 0 {
		return 1
	}
	return 0
}

func long(size int) api.Value { return s(strings.Repeat("x", size)) }
