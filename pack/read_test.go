package pack_test

import (
	"math"
	"slices"
	"strings"
	"testing"

	"tallyhouse/api"
	"tallyhouse/pack"
	"tallyhouse/vec"
)

func TestReadBack(t *testing.T) {
	for _, a := range samples() {
		for _, scheme := range a.schemes() {
			packed := spelled(a, scheme)
			v, e := pack.Read(packed)
			if e != api.OK || !same(v, a.vec()) {
				t.Errorf("Read of %.200v by scheme %d: %.200v, error %d", a.values, scheme, v, e)
			}
			if pack.Scheme(packed) != scheme || pack.Len(packed) != len(a.values) {
				t.Errorf("%.200v by scheme %d: scheme %d of %d values", a.values, scheme, pack.Scheme(packed), pack.Len(packed))
			}
		}
	}
}

// refused: no call takes these bytes for a packed column.
func refused(t *testing.T, what, packed string) {
	t.Helper()
	if v, e := pack.Read(packed); e != api.ErrDamage || v.Kind != 0 || v.Null != nil || v.N != nil || v.S != nil {
		t.Errorf("%s: Read %.200v, error %d", what, v, e)
	}
	if pack.Scheme(packed) != 0 || pack.Len(packed) != 0 {
		t.Errorf("%s: scheme %d of %d values", what, pack.Scheme(packed), pack.Len(packed))
	}
	for _, i := range []int{-1, 0, 1} {
		if v, e := pack.At(packed, i); e != api.ErrDamage || v != null {
			t.Errorf("%s: At %d: %v, error %d", what, i, v, e)
		}
	}
	for _, op := range []int{api.Eq, api.Ge, api.Add} {
		if places, e := pack.Find(packed, op, n(0)); e != api.ErrDamage || places != nil {
			t.Errorf("%s: Find by %d: %v, error %d", what, op, places, e)
		}
	}
	if least, greatest, nulls, e := pack.Span(packed); e != api.ErrDamage || least != null || greatest != null || nulls != 0 {
		t.Errorf("%s: Span %v, %v, %d, error %d", what, least, greatest, nulls, e)
	}
}

func TestReadRefusesTheHead(t *testing.T) {
	for what, packed := range map[string]string{
		"nothing":                       "",
		"no scheme 0":                   head(0, api.Int, 0),
		"no scheme 5":                   head(5, api.Int, 0) + strings.Repeat("\x00", 9),
		"no scheme 255":                 head(255, api.Int, 0),
		"no kind 0":                     head(plain, api.Null, 0),
		"no kind 3":                     head(plain, 3, 0),
		"no kind 255":                   head(plain, 255, 0),
		"offsets of texts":              head(offsets, api.Text, 0) + strings.Repeat("\x00", 9),
		"offsets of a text":             head(offsets, api.Text, 1) + strings.Repeat("\x00", 9),
		"too many values":               head(words, api.Int, api.MaxRows+1) + "\x00\x01" + inBytes(7, 8),
		"far too many values":           head(words, api.Int, math.MaxUint32) + "\x00\x01" + inBytes(7, 8),
		"too many nulls":                holed(plain, api.Int, api.MaxRows+1, strings.Repeat("\xff", 512)+"\x01"),
		"a mark of nulls that is 2":     strings.Replace(holed(plain, api.Int, 1, "\x01"), "\x01\x01\x00\x00\x00\x01\x01", "\x01\x01\x00\x00\x00\x01\x02", 1),
		"a mark of nulls that is 255":   "\x01\x01\x00\x00\x00\x00\xff",
		"nulls of nothing":              holed(plain, api.Int, 0, ""),
		"nulls of nothing, and bits":    holed(plain, api.Int, 0, "\x01"),
		"marked nulls, and none":        holed(plain, api.Int, 1, "\x00") + inBytes(7, 8),
		"a null behind the last value":  holed(plain, api.Int, 1, "\x02") + inBytes(7, 8),
		"nulls, and one behind them":    holed(plain, api.Int, 2, "\x07"),
		"bits of nulls cut":             holed(plain, api.Int, 9, "\x01"),
		"a byte of nulls too many":      holed(plain, api.Int, 8, "\xff\x00"),
		"a byte behind nothing":         head(plain, api.Int, 0) + "\x00",
		"a byte behind texts":           head(plain, api.Text, 1) + "\x00\x01a\x00",
		"fewer values than are told of": head(plain, api.Int, 2) + inBytes(7, 8),
		"more values than are told of":  head(plain, api.Int, 1) + inBytes(7, 8) + inBytes(7, 8),
		"a text that is cut":            head(plain, api.Text, 1) + "\x00\x02a",
		"a text that is too long":       head(plain, api.Text, 1) + inBytes(api.MaxText+1, 2) + long(api.MaxText+1),
	} {
		refused(t, what, packed)
	}
}

func TestReadRefusesRuns(t *testing.T) {
	run := func(count uint64, value int64) string { return inBytes(count, 4) + inBytes(uint64(value), 8) }
	for what, packed := range map[string]string{
		"no run told of":                  head(runs, api.Int, 1) + inBytes(0, 4),
		"a run of nothing":                head(runs, api.Int, 0) + inBytes(1, 4) + run(0, 7),
		"a run of none ahead of a run":    head(runs, api.Int, 1) + inBytes(2, 4) + run(0, 8) + run(1, 7),
		"a run of none behind a run":      head(runs, api.Int, 1) + inBytes(2, 4) + run(1, 7) + run(0, 8),
		"a run too long":                  head(runs, api.Int, 1) + inBytes(1, 4) + run(2, 7),
		"a run far too long":              head(runs, api.Int, 1) + inBytes(1, 4) + run(math.MaxUint32, 7),
		"a second run too long":           head(runs, api.Int, 3) + inBytes(2, 4) + run(2, 7) + run(2, 8),
		"runs too short":                  head(runs, api.Int, 3) + inBytes(2, 4) + run(1, 7) + run(1, 8),
		"a run parted":                    head(runs, api.Int, 2) + inBytes(2, 4) + run(1, 7) + run(1, 7),
		"a run of texts parted":           head(runs, api.Text, 2) + inBytes(2, 4) + "\x00\x00\x00\x01\x00\x01a\x00\x00\x00\x01\x00\x01a",
		"a run of empty texts parted":     head(runs, api.Text, 2) + inBytes(2, 4) + "\x00\x00\x00\x01\x00\x00\x00\x00\x00\x01\x00\x00",
		"a run parted by a null":          holed(runs, api.Int, 3, "\x02") + inBytes(2, 4) + run(1, 7) + run(1, 7),
		"fewer runs than are told of":     head(runs, api.Int, 2) + inBytes(2, 4) + run(2, 7),
		"far fewer runs than are told of": head(runs, api.Int, 2) + inBytes(math.MaxUint32, 4) + run(1, 7) + run(1, 8),
		"more runs than are told of":      head(runs, api.Int, 2) + inBytes(1, 4) + run(1, 7) + run(1, 8),
		"a run over nulls":                holed(runs, api.Int, 2, "\x02") + inBytes(1, 4) + run(2, 7),
		"a run of a text too long":        head(runs, api.Text, 1) + inBytes(1, 4) + inBytes(1, 4) + inBytes(api.MaxText+1, 2) + long(api.MaxText+1),
	} {
		refused(t, what, packed)
	}
}

func TestReadRefusesWords(t *testing.T) {
	for what, packed := range map[string]string{
		"no word for a value":          head(words, api.Int, 1) + "\x00\x00",
		"a word for no value":          head(words, api.Int, 0) + "\x00\x01" + inBytes(7, 8),
		"a word for nulls alone":       holed(words, api.Int, 1, "\x01") + "\x00\x01" + inBytes(7, 8),
		"words that fall":              head(words, api.Int, 2) + "\x00\x02" + inBytes(8, 8) + inBytes(7, 8) + "\x02",
		"words that are equal":         head(words, api.Int, 2) + "\x00\x02" + inBytes(7, 8) + inBytes(7, 8) + "\x02",
		"words ordered without a sign": head(words, api.Int, 2) + "\x00\x02" + inBytes(7, 8) + inBytes(math.MaxUint64, 8) + "\x02",
		"texts that fall":              head(words, api.Text, 2) + "\x00\x02\x00\x02ab\x00\x01a\x02",
		"texts by their length":        head(words, api.Text, 2) + "\x00\x02\x00\x01b\x00\x02ab\x02",
		"texts that are equal":         head(words, api.Text, 2) + "\x00\x02\x00\x01a\x00\x01a\x02",
		"many empty words":             head(words, api.Text, 2) + "\xff\xff" + strings.Repeat("\x00", 2*65535+8192),
		"a first word not used":        head(words, api.Int, 2) + "\x00\x02" + inBytes(7, 8) + inBytes(8, 8) + "\x03",
		"a last word not used":         head(words, api.Int, 2) + "\x00\x02" + inBytes(7, 8) + inBytes(8, 8) + "\x00",
		"a word that there is not":     head(words, api.Int, 4) + "\x00\x03" + inBytes(7, 8) + inBytes(8, 8) + inBytes(9, 8) + "\xe4",
		"bits behind the last number":  head(words, api.Int, 2) + "\x00\x02" + inBytes(7, 8) + inBytes(8, 8) + "\x06",
		"a high bit behind the last":   head(words, api.Int, 2) + "\x00\x02" + inBytes(7, 8) + inBytes(8, 8) + "\x82",
		"no numbers":                   head(words, api.Int, 2) + "\x00\x02" + inBytes(7, 8) + inBytes(8, 8),
		"numbers of one word":          head(words, api.Int, 2) + "\x00\x01" + inBytes(7, 8) + "\x00",
		"numbers wider than need be":   head(words, api.Int, 5) + "\x00\x02" + inBytes(7, 8) + inBytes(8, 8) + "\x44\x00",
		"fewer words than are told of": head(words, api.Int, 2) + "\x00\x02" + inBytes(7, 8),
		"a word that is too long":      head(words, api.Text, 1) + "\x00\x01" + inBytes(api.MaxText+1, 2) + long(api.MaxText+1),
	} {
		refused(t, what, packed)
	}
}

func TestReadRefusesOffsets(t *testing.T) {
	least := func(x int64, width uint64) string { return inBytes(uint64(x), 8) + inBytes(width, 1) }
	for what, packed := range map[string]string{
		"a least one of nothing":      head(offsets, api.Int, 0) + least(1, 0),
		"a least one of nulls":        holed(offsets, api.Int, 1, "\x01") + least(-1, 0),
		"a width of nothing":          head(offsets, api.Int, 0) + least(0, 1),
		"a width of nulls":            holed(offsets, api.Int, 1, "\x01") + least(0, 64),
		"a width that is too great":   head(offsets, api.Int, 1) + least(0, 65) + strings.Repeat("\x00", 9),
		"the greatest width":          head(offsets, api.Int, 1) + least(0, 255) + strings.Repeat("\x00", 32),
		"wider than need be, by one":  head(offsets, api.Int, 2) + least(5, 2) + "\x04",
		"wider than need be, of one":  head(offsets, api.Int, 1) + least(5, 1) + "\x00",
		"wider than need be, by many": head(offsets, api.Int, 2) + least(5, 64) + strings.Repeat("\x00", 8) + "\x01" + strings.Repeat("\x00", 7),
		"a least one not there":       head(offsets, api.Int, 2) + least(5, 2) + "\x0d",
		"one value above the least":   head(offsets, api.Int, 1) + least(5, 1) + "\x01",
		"more than 64 bits":           head(offsets, api.Int, 2) + least(math.MaxInt64, 1) + "\x02",
		"more than 64 bits, by far":   head(offsets, api.Int, 2) + least(-1, 64) + strings.Repeat("\x00", 8) + strings.Repeat("\xff", 8),
		"bits behind the last one":    head(offsets, api.Int, 2) + least(5, 1) + "\x06",
		"bits cut":                    head(offsets, api.Int, 9) + least(5, 1) + "\x02",
		"a byte of bits too many":     head(offsets, api.Int, 8) + least(5, 1) + "\x02\x00",
		"no width":                    head(offsets, api.Int, 0) + inBytes(0, 8),
	} {
		refused(t, what, packed)
	}
}

// asRead: if Read takes these bytes, they must be what is written of what it
// answers; tells whether it does.
func asRead(t *testing.T, packed string) bool {
	t.Helper()
	v, e := pack.Read(packed)
	if e == api.ErrDamage {
		return false
	}
	if e != api.OK || !vec.Good(v) {
		t.Errorf("Read(%.200q) = %.200v, error %d", packed, v, e)
		return false
	}
	if spelled(sample{v.Kind, vec.Values(v)}, int(packed[0])) != packed {
		t.Errorf("Read(%.200q) = %.200v, which is not written so", packed, v)
	}
	return true
}

func TestReadRefusesWhatIsCutOrLonger(t *testing.T) {
	for _, a := range smallSamples() {
		for _, scheme := range a.schemes() {
			packed := spelled(a, scheme)
			for i := range packed {
				refused(t, "cut", packed[:i])
			}
			for _, more := range []string{"\x00", "\x01", "\xff", packed} {
				refused(t, "longer", packed+more)
			}
		}
	}
}

func TestReadAfterOneByteIsTurned(t *testing.T) {
	for _, a := range smallSamples() {
		for _, scheme := range a.schemes() {
			packed := []byte(spelled(a, scheme))
			for i, b := range packed {
				for other := range 256 {
					packed[i] = byte(other)
					asRead(t, string(packed))
				}
				packed[i] = b
			}
		}
	}
}

// Every short tail of few unlike bytes, behind every sensible head.
func TestReadOfShortTails(t *testing.T) {
	read := 0
	var tails func(packed string, left int)
	tails = func(packed string, left int) {
		if asRead(t, packed) {
			read++
		}
		if left == 0 {
			return
		}
		for _, b := range []string{"\x00", "\x01", "\x02"} {
			tails(packed+b, left-1)
		}
	}
	for _, kind := range []int{api.Int, api.Text} {
		for _, scheme := range []int{plain, runs, words, offsets} {
			for count := range 4 {
				begin := inBytes(uint64(scheme), 1) + inBytes(uint64(kind), 1) + inBytes(uint64(count), 4)
				tails(begin, 9)
			}
		}
	}
	if read < 100 {
		t.Errorf("only %d were read", read)
	}
}

// scrambler: numbers that look thrown together, the same each time.
func scrambler() func(below int) int {
	state := uint64(88172645463325252)
	return func(below int) int {
		state ^= state << 13
		state ^= state >> 7
		state ^= state << 17
		return int(state % uint64(below))
	}
}

func TestReadOfScrambledBytes(t *testing.T) {
	next := scrambler()
	var packed []string
	for _, a := range samples() {
		for _, scheme := range a.schemes() {
			if text := spelled(a, scheme); len(text) < 4000 {
				packed = append(packed, text)
			}
		}
	}
	for range 40000 {
		a, b := packed[next(len(packed))], packed[next(len(packed))]
		at := next(len(a) + 1)
		mixed := []byte(a[:at] + b[min(at, len(b)):])
		for range next(4) {
			mixed[next(len(mixed))] = byte(next(256))
		}
		asRead(t, string(mixed))
	}
}

func TestReadOfLargeDamage(t *testing.T) {
	large := sample{api.Text, slices.Repeat(texts(long(api.MaxText), "a"), api.MaxRows/2)}
	packed := spelled(large, plain)
	refused(t, "a large one cut", packed[:len(packed)-1])
	refused(t, "a large one longer", packed+"\x00")
	refused(t, "zeros", strings.Repeat("\x00", 1<<20))
	refused(t, "bytes of ones", strings.Repeat("\xff", 1<<20))
	refused(t, "bytes of 1", strings.Repeat("\x01", 1<<20))
}
