package seg_test

import (
	"encoding/binary"
	"hash/crc32"
	"math"
	"math/rand"
	"reflect"
	"slices"
	"strconv"
	"strings"
	"testing"

	"tallyhouse/api"
	"tallyhouse/cell"
	"tallyhouse/pack"
	"tallyhouse/seg"
	"tallyhouse/vec"
)

var null api.Value

func n(x int64) api.Value { return api.Value{Kind: api.Int, N: x} }

func s(x string) api.Value { return api.Value{Kind: api.Text, S: x} }

func long(size int) string { return strings.Repeat("x", size) }

// sample: a table of clean values that fit its kinds.
type sample struct {
	kinds []int
	rows  [][]api.Value
}

func one(kind int, values ...api.Value) sample {
	a := sample{kinds: []int{kind}}
	for _, v := range values {
		a.rows = append(a.rows, []api.Value{v})
	}
	return a
}

// smallSamples have so few bytes that each change of them can be gone through.
func smallSamples() []sample {
	return []sample{
		one(api.Int), one(api.Text), {kinds: []int{api.Text, api.Int, api.Text}},
		one(api.Int, n(7)), one(api.Int, null), one(api.Int, null, null), one(api.Int, n(-1), null, n(5)),
		one(api.Int, n(math.MinInt64), n(math.MaxInt64)), one(api.Int, n(7), n(7), n(7), n(7), n(7), n(7)),
		one(api.Text, s("")), one(api.Text, s("a"), s("b")), one(api.Text, null), one(api.Text, s("a"), null, s("")), one(api.Text, s("\x00"), s("\xff\x00")),
		// A value between the least and the greatest may be another one.
		one(api.Int, n(1), n(77), n(200)), one(api.Text, s("a"), s("m"), s("z")),
		{[]int{api.Int, api.Text}, [][]api.Value{{n(3), s("x")}, {n(8), null}}},
		{[]int{api.Int, api.Int}, [][]api.Value{{n(3), n(4)}, {n(4), n(3)}, {null, n(0)}}},
		{[]int{api.Text, api.Text, api.Int}, [][]api.Value{{s("b"), s("a"), null}, {s("b"), null, null}}},
	}
}

// samples: small ones, and such as reach what a segment may hold.
func samples() []sample {
	out := smallSamples()
	r := rand.New(rand.NewSource(5))
	for columns := 1; columns <= api.MaxColumns; columns++ {
		out = append(out, random(r, columns, r.Intn(20)))
	}
	for _, rows := range []int{255, 256, 257, 4095, 4096} {
		out = append(out, random(r, 3, rows))
	}
	zeros := strings.Repeat("\x00", api.MaxText)
	out = append(out, one(api.Text, s(zeros), s(zeros)), one(api.Text, s(long(api.MaxText)), s(zeros[1:]+"\x01")))
	counted := one(api.Int)
	for i := range api.MaxRows {
		counted.rows = append(counted.rows, []api.Value{n(int64(i * i))})
	}
	words := one(api.Text)
	for i := range api.MaxRows {
		words.rows = append(words.rows, []api.Value{s(strconv.Itoa(i*i) + long(i%80))})
	}
	return append(out, counted, words, random(r, api.MaxColumns, 300))
}

func random(r *rand.Rand, columns, rows int) sample {
	a := sample{rows: make([][]api.Value, rows)}
	for range columns {
		kind := api.Int + r.Intn(2)
		a.kinds = append(a.kinds, kind)
		nulls := []int{1, 2, 9, 1000000}[r.Intn(4)]
		for i := range a.rows {
			a.rows[i] = append(a.rows[i], anyOf(r, kind, nulls))
		}
	}
	return a
}

// anyOf this kind, or null about once of so many times.
func anyOf(r *rand.Rand, kind, nulls int) api.Value {
	switch {
	case r.Intn(nulls) == 0:
		return null
	case kind == api.Int:
		return n(int64(r.Uint64()) >> (8 * r.Intn(8)))
	}
	return s([]string{"", "a", "ab", "\x00", "b\x00b", "\xff", long(1 + r.Intn(40))}[r.Intn(7)])
}

// column i, as a vec.
func (a sample) column(i int) api.Vec {
	v := api.Vec{Kind: a.kinds[i]}
	for _, row := range a.rows {
		v.Null = append(v.Null, row[i] == null)
		if v.Kind == api.Int {
			v.N = append(v.N, row[i].N)
		} else {
			v.S = append(v.S, row[i].S)
		}
	}
	return v
}

// span of column i: the least value, the greatest one, how many are null.
func (a sample) span(i int) (api.Value, api.Value, int) {
	var there []api.Value
	for _, row := range a.rows {
		if row[i] != null {
			there = append(there, row[i])
		}
	}
	if len(there) == 0 {
		return null, null, len(a.rows)
	}
	slices.SortFunc(there, cell.Order)
	return there[0], there[len(there)-1], len(a.rows) - len(there)
}

func (a sample) head() api.Head {
	h := api.Head{Rows: len(a.rows)}
	for i := range a.kinds {
		low, high, nulls := a.span(i)
		h.Low, h.High, h.Nulls = append(h.Low, low), append(h.High, high), append(h.Nulls, nulls)
	}
	return h
}

// piece: a column as it lies in a segment.
type piece struct {
	zone   string
	packed string
}

func zone(low, high api.Value, nulls int64) string {
	return cell.Key([]api.Value{low, high, n(nulls)})
}

// pieces of a sample, put together without the package.
func (a sample) pieces() []piece {
	var out []piece
	for i := range a.kinds {
		packed, _ := pack.Pack(a.column(i))
		low, high, nulls := a.span(i)
		out = append(out, piece{zone(low, high, int64(nulls)), packed})
	}
	return out
}

// laid: a segment without its checksum, as the document lays it out.
func laid(rows int, pieces []piece) string {
	out := append([]byte("S1"), byte(len(pieces)))
	out = binary.BigEndian.AppendUint32(out, uint32(rows))
	for _, p := range pieces {
		out = binary.BigEndian.AppendUint16(out, uint16(len(p.zone)))
		out = append(out, p.zone...)
		out = binary.BigEndian.AppendUint32(out, uint32(len(p.packed)))
	}
	for _, p := range pieces {
		out = append(out, p.packed...)
	}
	return string(out)
}

// sealed: with the checksum behind it.
func sealed(body string) string {
	return string(binary.BigEndian.AppendUint32([]byte(body), crc32.ChecksumIEEE([]byte(body))))
}

// spelled: the segment that the document gives a sample.
func spelled(a sample) string { return sealed(laid(len(a.rows), a.pieces())) }

// Lists that are empty may be nil.
func sameVec(v, w api.Vec) bool {
	return v.Kind == w.Kind && slices.Equal(v.Null, w.Null) && slices.Equal(v.N, w.N) && slices.Equal(v.S, w.S)
}

func sameHead(a, b api.Head) bool {
	return a.Rows == b.Rows && slices.Equal(a.Low, b.Low) && slices.Equal(a.High, b.High) && slices.Equal(a.Nulls, b.Nulls)
}

func sameRows(a, b [][]api.Value) bool { return slices.EqualFunc(a, b, slices.Equal) }

func allColumns(count int) []int {
	var out []int
	for i := range count {
		out = append(out, i)
	}
	return out
}

// refused: no call takes these bytes for a segment.
func refused(t *testing.T, what, text string) {
	t.Helper()
	if e := seg.Open(text); e != api.ErrDamage {
		t.Errorf("%s: Open: error %d", what, e)
	}
	if seg.Rows(text) != 0 || len(seg.Kinds(text)) != 0 {
		t.Errorf("%s: %d rows of the kinds %v", what, seg.Rows(text), seg.Kinds(text))
	}
	if h, e := seg.Head(text); e != api.ErrDamage || !reflect.DeepEqual(h, api.Head{}) {
		t.Errorf("%s: Head %v, error %d", what, h, e)
	}
	if all, e := seg.Columns(text); e != api.ErrDamage || all != nil {
		t.Errorf("%s: Columns: %.200v, error %d", what, all, e)
	}
	for _, i := range []int{-1, 0, 1, 99} {
		if v, e := seg.Column(text, i); e != api.ErrDamage || !reflect.DeepEqual(v, api.Vec{}) {
			t.Errorf("%s: Column %d: %.200v, error %d", what, i, v, e)
		}
		if rows, e := seg.Read(text, []int{i}); e != api.ErrDamage || rows != nil {
			t.Errorf("%s: Read %d: %.200v, error %d", what, i, rows, e)
		}
	}
	if rows, e := seg.Read(text, nil); e != api.ErrDamage || rows != nil {
		t.Errorf("%s: Read of no columns: %.200v, error %d", what, rows, e)
	}
}

// asOpened: if Open takes these bytes, they must be what is written of the
// rows in them; tells whether it does.
func asOpened(t *testing.T, text string) bool {
	t.Helper()
	e := seg.Open(text)
	if e == api.ErrDamage {
		return false
	}
	kinds := seg.Kinds(text)
	rows, err := seg.Read(text, allColumns(len(kinds)))
	if e != api.OK || err != api.OK || len(rows) != seg.Rows(text) {
		t.Errorf("Open(%.200q): error %d; Read: %d rows, error %d", text, e, len(rows), err)
		return false
	}
	if spelled(sample{kinds, rows}) != text {
		t.Errorf("Open(%.200q): it holds %.200v, which is not written so", text, rows)
	}
	return true
}

func mustBuild(t *testing.T, a sample) string {
	t.Helper()
	out, e := seg.Build(a.kinds, a.rows)
	if e != api.OK {
		t.Fatalf("Build(%v, %.200v): error %d", a.kinds, a.rows, e)
	}
	return out
}

func TestSamplesAreTables(t *testing.T) {
	for _, a := range samples() {
		for i := range a.kinds {
			if !vec.Good(a.column(i)) || vec.Len(a.column(i)) != len(a.rows) {
				t.Fatalf("column %d of %.200v", i, a.rows)
			}
		}
	}
}
