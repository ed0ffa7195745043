package cell_test

import (
	"math"
	"slices"
	"strings"
	"testing"

	"tallyhouse/api"
	"tallyhouse/cell"
)

func TestKeyBytes(t *testing.T) {
	for _, c := range []struct {
		row  []api.Value
		want string
	}{
		{nil, ""},
		{[]api.Value{}, ""},
		{[]api.Value{null}, "\x01"},
		{[]api.Value{null, null}, "\x01\x01"},
		{[]api.Value{n(0)}, "\x02\x80\x00\x00\x00\x00\x00\x00\x00"},
		{[]api.Value{n(-1)}, "\x02\x7f\xff\xff\xff\xff\xff\xff\xff"},
		{[]api.Value{n(math.MinInt64)}, "\x02\x00\x00\x00\x00\x00\x00\x00\x00"},
		{[]api.Value{n(math.MaxInt64)}, "\x02\xff\xff\xff\xff\xff\xff\xff\xff"},
		{[]api.Value{n(0x0102030405060708)}, "\x02\x81\x02\x03\x04\x05\x06\x07\x08"},
		{[]api.Value{s("")}, "\x03\x00\x01"},
		{[]api.Value{s("a")}, "\x03a\x00\x01"},
		{[]api.Value{s("\x00")}, "\x03\x00\xff\x00\x01"},
		{[]api.Value{s("\x00\x00")}, "\x03\x00\xff\x00\xff\x00\x01"},
		{[]api.Value{s("\xff\x00\x01é")}, "\x03\xff\x00\xff\x01é\x00\x01"},
		{[]api.Value{s("b"), null, n(1)}, "\x03b\x00\x01\x01\x02\x80\x00\x00\x00\x00\x00\x00\x01"},
	} {
		if got := cell.Key(c.row); got != c.want {
			t.Errorf("Key(%v) = %q, not %q", c.row, got, c.want)
		}
	}
}

func TestKeyCountsCleanValues(t *testing.T) {
	for _, v := range rising() {
		want := cell.Key([]api.Value{v, v})
		for _, dirty := range soiled(v) {
			if got := cell.Key([]api.Value{dirty, v}); got != want {
				t.Errorf("Key of %v = %q, not %q", dirty, got, want)
			}
		}
	}
}

// shortRows: all rows of at most two rising values.
func shortRows() [][]api.Value {
	out := [][]api.Value{{}}
	for _, a := range rising() {
		out = append(out, []api.Value{a})
		for _, b := range rising() {
			out = append(out, []api.Value{a, b})
		}
	}
	return out
}

func TestKeysInOrder(t *testing.T) {
	rows := shortRows()
	keys := make([]string, len(rows))
	for i := range rows {
		keys[i] = cell.Key(rows[i])
	}
	for i := range rows {
		for k := range rows {
			if want, got := cell.Rows(rows[i], rows[k]), strings.Compare(keys[i], keys[k]); got != want {
				t.Errorf("keys of %v and %v: %d, not %d", rows[i], rows[k], got, want)
			}
		}
	}
}

func TestRowOfKey(t *testing.T) {
	rows := append(shortRows(), []api.Value{n(1), long(3000), null, s("\x00\xff\x00\x01")}, make([]api.Value, 100))
	for _, row := range rows {
		got, e := cell.Row(cell.Key(row))
		if e != api.OK || !slices.Equal(got, row) {
			t.Errorf("Row(Key(%v)) = %v, %d", row, got, e)
		}
	}
}

func TestRowOfDamage(t *testing.T) {
	for _, key := range []string{
		"\x00", "\x04", "\xff", "a", "\x01\x00", "\x01\x01\x04",
		"\x02", "\x02\x80\x00\x00\x00\x00\x00\x00", "\x02\x80\x00\x00\x00\x00\x00\x00\x00\x00", "\x01\x02\x80",
		"\x03", "\x03a", "\x03\x00", "\x03a\x00", "\x03\x00\x00\x01", "\x03\x00\x02", "\x03\x00\xfe", "\x03\x00\xff", "\x03a\x00\xff\x00", "\x03\x00\x01\x00", "\x03\x00\x01a",
		"\x03\x02\x00\x02\x00\x00\x00\x00\x00\x00", // a number, but for the mark of a text ahead of it
	} {
		row, e := cell.Row(key)
		if e != api.ErrDamage || row != nil {
			t.Errorf("Row(%q) = %v, %d", key, row, e)
		}
	}
}

const (
	keyAlphabet = "\x00\x01\x02\x03\x04a\xfe\xff"
	keySize     = 5
)

// words: all texts of at most size bytes of the alphabet.
func words(size int) []string {
	out := []string{""}
	for i := 0; i < len(out); i++ {
		if len(out[i]) == size {
			break
		}
		for k := range len(keyAlphabet) {
			out = append(out, out[i]+keyAlphabet[k:k+1])
		}
	}
	return out
}

// rowsByKey: all rows, by their keys of at most keySize bytes of the alphabet. No number has so short a key.
func rowsByKey() map[string][]api.Value {
	values := []api.Value{null}
	for _, w := range words(keySize - 3) {
		values = append(values, s(w))
	}
	out := map[string][]api.Value{}
	var grow func(row []api.Value)
	grow = func(row []api.Value) {
		key := cell.Key(row)
		if len(key) > keySize {
			return
		}
		out[key] = slices.Clone(row)
		for _, v := range values {
			grow(append(slices.Clone(row), v))
		}
	}
	grow(nil)
	return out
}

func TestRowOfEveryShortText(t *testing.T) {
	there := rowsByKey()
	for _, key := range words(keySize) {
		got, e := cell.Row(key)
		want, ok := there[key]
		if ok && (e != api.OK || !slices.Equal(got, want)) {
			t.Errorf("Row(%q) = %v, %d, not %v", key, got, e, want)
		}
		if !ok && (e != api.ErrDamage || got != nil) {
			t.Errorf("Row(%q) = %v, %d, not damage", key, got, e)
		}
	}
}

func TestRowsStayAsTheyAre(t *testing.T) {
	whole := []api.Value{{Kind: 9, N: 1, S: "x"}, {Kind: api.Int, N: 2, S: "y"}, {Kind: api.Text, N: 3, S: "z"}, n(4), s("w")}
	row := slices.Clone(whole)
	cell.Key(row[:3])
	cell.Rows(row[:3], row[1:4])
	if !slices.Equal(row, whole) {
		t.Errorf("the row became %v", row)
	}
}

func TestRowIsNewMemory(t *testing.T) {
	key := cell.Key([]api.Value{n(1), s("a"), null})
	first, _ := cell.Row(key)
	second, _ := cell.Row(key)
	spare := first[:cap(first)]
	for i := range spare {
		spare[i] = n(99)
	}
	third, _ := cell.Row(key)
	want := []api.Value{n(1), s("a"), null}
	if !slices.Equal(second, want) || !slices.Equal(third, want) {
		t.Errorf("rows became %v and %v", second, third)
	}
}
