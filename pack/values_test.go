package pack_test

import (
	"cmp"
	"math"
	"slices"
	"strconv"
	"strings"
	"testing"

	"tallyhouse/api"
	"tallyhouse/pack"
)

// The schemes.
const (
	plain   = 1
	runs    = 2
	words   = 3
	offsets = 4
)

var null api.Value

func n(x int64) api.Value { return api.Value{Kind: api.Int, N: x} }

func s(x string) api.Value { return api.Value{Kind: api.Text, S: x} }

func long(size int) string { return strings.Repeat("x", size) }

func numbers(l ...int64) []api.Value {
	var out []api.Value
	for _, x := range l {
		out = append(out, n(x))
	}
	return out
}

func texts(l ...string) []api.Value {
	var out []api.Value
	for _, x := range l {
		out = append(out, s(x))
	}
	return out
}

// made: so many values, each by its place.
func made(count int, each func(i int) api.Value) []api.Value {
	out := make([]api.Value, count)
	for i := range out {
		out[i] = each(i)
	}
	return out
}

// byHand: the vec of clean values of this kind.
func byHand(kind int, values []api.Value) api.Vec {
	v := api.Vec{Kind: kind}
	for _, value := range values {
		v.Null = append(v.Null, value == null)
		if kind == api.Int {
			v.N = append(v.N, value.N)
		} else {
			v.S = append(v.S, value.S)
		}
	}
	return v
}

// sample: clean values, each null or of this kind.
type sample struct {
	kind   int
	values []api.Value
}

func (a sample) vec() api.Vec { return byHand(a.kind, a.values) }

// schemes that fit the sample's kind.
func (a sample) schemes() []int {
	if a.kind == api.Text {
		return []int{plain, runs, words}
	}
	return []int{plain, runs, words, offsets}
}

// smallSamples have at most a few bytes, so that each change of them can be
// gone through.
func smallSamples() []sample {
	var out []sample
	for _, values := range [][]api.Value{
		{}, {null}, {null, null}, {n(0)}, {n(7)}, {n(-1)}, {null, n(7)}, {n(7), null},
		slices.Repeat([]api.Value{null}, 8), slices.Repeat([]api.Value{null}, 9),
		numbers(7, 7, 7, 7, 7, 7), numbers(5, 3, 9, 3), numbers(-1, 0, 1), numbers(0, 1), numbers(1, 0),
		numbers(math.MinInt64, math.MaxInt64), {n(math.MaxInt64), null, n(math.MinInt64), n(0)},
		numbers(math.MinInt64, math.MinInt64), numbers(math.MaxInt64, math.MaxInt64), numbers(0, math.MaxInt64), numbers(-1, math.MaxInt64),
		{n(7), null, n(7), null, null, n(8), n(7)}, numbers(1, 2, 1, 2, 1, 2, 1, 2), numbers(1, 2, 3, 1, 2, 3), numbers(4, 3, 2, 1),
		numbers(1, 2, 3, 4, 5), numbers(0, 255), numbers(0, 256), numbers(0, 1<<32), numbers(1000, 1001, 1002, 1003, 1004, 1005, 1006, 1007, 1008),
	} {
		out = append(out, sample{api.Int, values})
	}
	for _, values := range [][]api.Value{
		{}, {null}, {null, null}, {s("")}, {s("a")}, {s(""), null, s("")}, {s("b"), null, s("a")}, {s("a"), null, s("a")},
		texts("", "a", "ab", "a\x00", "b", "\xff", "\x00"), texts("a", "a", "a", "b", "b", "a"), texts("ab", "a", "", "a", "ab"),
		texts("a", "b", "c"), texts("d", "c", "b", "a"), texts("\xff\xfe", "\x80"), {null, null, null, null, null, null, null, null, s("x"), null},
	} {
		out = append(out, sample{api.Text, values})
	}
	return out
}

// samples: small ones, and such as reach what a column may hold.
func samples() []sample {
	out := smallSamples()
	for width := range 64 {
		greatest := int64(uint64(1)<<width - 1)
		out = append(out, sample{api.Int, numbers(-3, -3+greatest, -3, -3+greatest/2)})
		out = append(out, sample{api.Int, numbers(math.MinInt64, math.MinInt64+greatest, math.MinInt64+1)})
		out = append(out, sample{api.Int, numbers(math.MaxInt64-greatest, math.MaxInt64, math.MaxInt64-1)})
	}
	for _, count := range []int{15, 16, 17, 255, 256, 257, 4095, 4096} {
		falling := func(i int) api.Value { return n(int64(-i * i)) }
		mixed := func(i int) api.Value { return n(int64(i*37%count) << 20) }
		out = append(out, sample{api.Int, made(count, falling)}, sample{api.Int, made(count, mixed)})
		word := func(i int) api.Value { return s(strconv.Itoa(i * 37 % count)) }
		holes := func(i int) api.Value {
			if i%5 == 2 {
				return null
			}
			return s(strconv.Itoa(i / 9))
		}
		out = append(out, sample{api.Text, made(count, word)}, sample{api.Text, made(count, holes)})
		out = append(out, sample{api.Int, slices.Repeat([]api.Value{null}, count)}, sample{api.Text, slices.Repeat([]api.Value{s("same")}, count)})
	}
	full, other := long(api.MaxText), long(api.MaxText-1)+"y"
	out = append(out, sample{api.Text, texts(full, other, full, long(255), long(256), long(257))})
	return append(out, sample{api.Text, slices.Repeat(texts(other, full), api.MaxRows/2)})
}

// badVecs: vecs that are not good.
func badVecs() []api.Vec {
	return []api.Vec{
		{},
		{Kind: 3}, {Kind: -1}, {Kind: math.MaxInt}, {Kind: 1<<32 + api.Int},
		{Kind: api.Null, Null: []bool{true}},
		{Kind: api.Int, Null: []bool{true}, N: []int64{1}},
		{Kind: api.Int, Null: []bool{false}},
		{Kind: api.Int, N: []int64{1}},
		{Kind: api.Int, Null: []bool{false}, N: []int64{1}, S: []string{""}},
		{Kind: api.Int, Null: []bool{false}, S: []string{"a"}},
		{Kind: api.Text, Null: []bool{true}, S: []string{"a"}},
		{Kind: api.Text, Null: []bool{false, false}, S: []string{"a"}},
		{Kind: api.Text, Null: []bool{false}, S: []string{"a"}, N: []int64{0}},
		{Kind: api.Text, Null: []bool{false}, S: []string{long(api.MaxText + 1)}},
	}
}

// inBytes: a number, the high byte first.
func inBytes(x uint64, size int) string {
	out := ""
	for range size {
		out = string([]byte{byte(x)}) + out
		x >>= 8
	}
	return out
}

// inBits: the numbers' bits as a row of 0 and 1, each number's lowest one
// first, cut into bytes.
func inBits(numbers []uint64, width int) string {
	var row strings.Builder
	for _, x := range numbers {
		for range width {
			row.WriteByte("01"[x%2])
			x /= 2
		}
	}
	for row.Len()%8 != 0 {
		row.WriteByte('0')
	}
	var out []byte
	for at := 0; at < row.Len(); at += 8 {
		b := 0
		for k := range 8 {
			b += int(row.String()[at+k]-'0') << k
		}
		out = append(out, byte(b))
	}
	return string(out)
}

// fewest bits with which x can be told.
func fewest(x uint64) int {
	width := 0
	for x > 0 {
		x /= 2
		width++
	}
	return width
}

func inPlain(v api.Value) string {
	if v.Kind == api.Int {
		return inBytes(uint64(v.N), 8)
	}
	return inBytes(uint64(len(v.S)), 2) + v.S
}

// spelled: the bytes that the document gives a sample, put together without
// the package.
func spelled(a sample, scheme int) string {
	out := inBytes(uint64(scheme), 1) + inBytes(uint64(a.kind), 1) + inBytes(uint64(len(a.values)), 4)
	var marks []uint64
	var there []api.Value
	for _, v := range a.values {
		if v == null {
			marks = append(marks, 1)
		} else {
			marks = append(marks, 0)
			there = append(there, v)
		}
	}
	if len(there) < len(a.values) {
		out += "\x01" + inBits(marks, 1)
	} else {
		out += "\x00"
	}
	return out + map[int]func([]api.Value) string{plain: inPlains, runs: inRuns, words: inWords, offsets: inOffsets}[scheme](there)
}

func inPlains(values []api.Value) string {
	var out strings.Builder
	for _, v := range values {
		out.WriteString(inPlain(v))
	}
	return out.String()
}

func inRuns(values []api.Value) string {
	var out strings.Builder
	count, size := 0, 0
	for i, v := range values {
		size++
		if i+1 == len(values) || values[i+1] != v {
			out.WriteString(inBytes(uint64(size), 4) + inPlain(v))
			count, size = count+1, 0
		}
	}
	return inBytes(uint64(count), 4) + out.String()
}

func inWords(values []api.Value) string {
	number := map[api.Value]uint64{}
	var list []api.Value
	for _, v := range values {
		if _, known := number[v]; !known {
			number[v] = 0
			list = append(list, v)
		}
	}
	slices.SortFunc(list, func(a, b api.Value) int { return cmp.Or(cmp.Compare(a.N, b.N), cmp.Compare(a.S, b.S)) })
	for i, v := range list {
		number[v] = uint64(i)
	}
	var row []uint64
	for _, v := range values {
		row = append(row, number[v])
	}
	return inBytes(uint64(len(list)), 2) + inPlains(list) + inBits(row, fewest(uint64(max(1, len(list))-1)))
}

func inOffsets(values []api.Value) string {
	if len(values) == 0 {
		return strings.Repeat("\x00", 9)
	}
	least := values[0].N
	for _, v := range values {
		least = min(least, v.N)
	}
	var row []uint64
	width := 0
	for _, v := range values {
		row = append(row, uint64(v.N)-uint64(least))
		width = max(width, fewest(row[len(row)-1]))
	}
	return inBytes(uint64(least), 8) + inBytes(uint64(width), 1) + inBits(row, width)
}

// Lists that are empty may be nil.
func same(v, w api.Vec) bool {
	return v.Kind == w.Kind && slices.Equal(v.Null, w.Null) && slices.Equal(v.N, w.N) && slices.Equal(v.S, w.S)
}

func mustWrite(t *testing.T, v api.Vec, scheme int) string {
	t.Helper()
	out, e := pack.Write(v, scheme)
	if e != api.OK {
		t.Fatalf("Write(%.200v, %d): error %d", v, scheme, e)
	}
	return out
}

// head of a packed column without nulls.
func head(scheme, kind, count int) string {
	return inBytes(uint64(scheme), 1) + inBytes(uint64(kind), 1) + inBytes(uint64(count), 4) + "\x00"
}

// holed: the head of a packed column with nulls, as these bytes mark them.
func holed(scheme, kind, count int, marks string) string {
	return inBytes(uint64(scheme), 1) + inBytes(uint64(kind), 1) + inBytes(uint64(count), 4) + "\x01" + marks
}
