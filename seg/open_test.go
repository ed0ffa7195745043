package seg_test

import (
	"encoding/binary"
	"hash/adler32"
	"hash/crc32"
	"math/rand"
	"slices"
	"strings"
	"testing"

	"tallyhouse/api"
	"tallyhouse/cell"
	"tallyhouse/pack"
	"tallyhouse/seg"
)

func TestOpen(t *testing.T) {
	for _, a := range samples() {
		text := spelled(a)
		if e := seg.Open(text); e != api.OK {
			t.Errorf("Open of %.200v: error %d", a.rows, e)
		}
		if seg.Rows(text) != len(a.rows) || !slices.Equal(seg.Kinds(text), a.kinds) {
			t.Errorf("%d rows of the kinds %v, not %d of %v", seg.Rows(text), seg.Kinds(text), len(a.rows), a.kinds)
		}
	}
}

func TestOpenRefusesWhatIsCutOrLonger(t *testing.T) {
	for _, a := range smallSamples() {
		text := spelled(a)
		body := text[:len(text)-4]
		for i := range text {
			refused(t, "cut", text[:i])
			refused(t, "cut in front", text[1+i:])
		}
		for i := range body {
			refused(t, "cut and sealed", sealed(body[:i]))
		}
		for _, more := range []string{"\x00", "\x01", "\xff", "S1", text} {
			refused(t, "longer", text+more)
			refused(t, "longer in front", more+text)
			refused(t, "longer and sealed", sealed(body+more))
			refused(t, "longer in front and sealed", sealed(more+body))
		}
		refused(t, "sealed twice", sealed(text))
	}
}

func TestOpenRefusesWhereABitIsTurned(t *testing.T) {
	for _, a := range smallSamples() {
		text := []byte(spelled(a))
		for i := range text {
			for bit := range 8 {
				text[i] ^= 1 << bit
				refused(t, "a bit turned", string(text))
				text[i] ^= 1 << bit
			}
		}
	}
}

// With a checksum that is right all the rest must be found out.
func TestOpenAfterOneByteIsTurnedAndSealed(t *testing.T) {
	opened := 0
	for _, a := range smallSamples() {
		body := []byte(laid(len(a.rows), a.pieces()))
		for i, b := range body {
			for other := range 256 {
				body[i] = byte(other)
				if asOpened(t, sealed(string(body))) && byte(other) != b {
					opened++
				}
			}
			body[i] = b
		}
	}
	if opened < 100 {
		t.Errorf("only %d were opened", opened)
	}
}

func TestOpenOfScrambledBytes(t *testing.T) {
	r := rand.New(rand.NewSource(11))
	var bodies []string
	for _, a := range samples() {
		if len(a.rows) < 300 {
			bodies = append(bodies, laid(len(a.rows), a.pieces()))
		}
	}
	for range 20000 {
		a, b := bodies[r.Intn(len(bodies))], bodies[r.Intn(len(bodies))]
		at := r.Intn(len(a) + 1)
		mixed := []byte(a[:at] + b[min(at, len(b)):])
		for range r.Intn(4) {
			mixed[r.Intn(len(mixed))] = byte(r.Intn(256))
		}
		asOpened(t, sealed(string(mixed)))
		asOpened(t, string(mixed))
	}
}

func TestOpenRefusesAnotherChecksum(t *testing.T) {
	a := sample{[]int{api.Int, api.Text}, [][]api.Value{{n(3), s("x")}, {n(8), null}}}
	body := laid(2, a.pieces())
	sum := crc32.ChecksumIEEE([]byte(body))
	for what, tail := range map[string]string{
		"none":                   "",
		"zeros":                  "\x00\x00\x00\x00",
		"the low byte first":     string(binary.LittleEndian.AppendUint32(nil, sum)),
		"not turned in the end":  string(binary.BigEndian.AppendUint32(nil, ^sum)),
		"by another polynomial":  string(binary.BigEndian.AppendUint32(nil, crc32.Checksum([]byte(body), crc32.MakeTable(crc32.Castagnoli)))),
		"no CRC":                 string(binary.BigEndian.AppendUint32(nil, adler32.Checksum([]byte(body)))),
		"of all but the mark":    string(binary.BigEndian.AppendUint32(nil, crc32.ChecksumIEEE([]byte(body[2:])))),
		"one more":               string(binary.BigEndian.AppendUint32(nil, sum+1)),
		"in eight bytes":         string(binary.BigEndian.AppendUint64(nil, uint64(sum))),
		"with zeros within":      "\x00" + string(binary.BigEndian.AppendUint32(nil, sum)),
		"of itself and checksum": sealed(body)[len(body):] + sealed(sealed(body))[len(body)+4:],
	} {
		refused(t, what, body+tail)
	}
}

// written by a scheme.
func written(v api.Vec, scheme int) string {
	packed, _ := pack.Write(v, scheme)
	return packed
}

func TestOpenRefusesColumnsByAnotherScheme(t *testing.T) {
	tried := 0
	for _, a := range samples() {
		if len(a.rows) > 20 {
			continue
		}
		right := a.pieces()
		for i := range a.kinds {
			for scheme := 1; scheme <= 4; scheme++ {
				other := written(a.column(i), scheme)
				if other != "" && other != right[i].packed {
					pieces := slices.Clone(right)
					pieces[i].packed = other
					if e := seg.Open(sealed(laid(len(a.rows), pieces))); e != api.ErrDamage {
						t.Errorf("column %d of %v by scheme %d: error %d", i, a.rows, scheme, e)
					}
					tried++
				}
			}
		}
	}
	if tried < 100 {
		t.Errorf("only %d were tried", tried)
	}
}

func TestOpenRefusesWrongZones(t *testing.T) {
	a := one(api.Int, n(3), null, n(8))
	b := one(api.Text, s("a"), null, s("b"))
	for what, c := range map[string]struct {
		a    sample
		zone string
	}{
		"none":                  {a, ""},
		"the least one less":    {a, zone(n(2), n(8), 1)},
		"the least one more":    {a, zone(n(4), n(8), 1)},
		"the least one is null": {a, zone(null, n(8), 1)},
		"the greatest one less": {a, zone(n(3), n(7), 1)},
		"the greatest one more": {a, zone(n(3), n(9), 1)},
		"turned round":          {a, zone(n(8), n(3), 1)},
		"no nulls":              {a, zone(n(3), n(8), 0)},
		"more nulls":            {a, zone(n(3), n(8), 2)},
		"fewer than no nulls":   {a, zone(n(3), n(8), -1)},
		"nulls are null":        {a, cell.Key([]api.Value{n(3), n(8), null})},
		"two values":            {a, cell.Key([]api.Value{n(3), n(8)})},
		"four values":           {a, zone(n(3), n(8), 1) + cell.Key([]api.Value{null})},
		"no key":                {a, "\x00"},
		"a key that is cut":     {a, zone(n(3), n(8), 1)[:26]},
		"long":                  {a, zone(n(3), n(8), 1) + strings.Repeat("\x01", 60000)},
		"of a text":             {a, zone(s("a"), s("b"), 1)},
		"of a number":           {b, zone(n(3), n(8), 1)},
		"a text that is less":   {b, zone(s("a"), s("ab"), 1)},
		"a text that is more":   {b, zone(s("a\x00"), s("b"), 1)},
		"a text that is cut":    {b, zone(s(""), s("b"), 1)},
	} {
		refused(t, what, sealed(laid(3, []piece{{c.zone, c.a.pieces()[0].packed}})))
	}
	for what, z := range map[string]string{"numbers of no rows": zone(n(0), n(0), 0), "nulls of no rows": zone(null, null, 1)} {
		refused(t, what, sealed(laid(0, []piece{{z, one(api.Int).pieces()[0].packed}})))
	}
}

// nulls: a packed column of so many, more than there may be.
func nulls(count int) string {
	bits := make([]byte, (count+7)/8)
	for i := range count {
		bits[i/8] |= 1 << (i % 8)
	}
	return "\x01\x01" + string(binary.BigEndian.AppendUint32(nil, uint32(count))) + "\x01" + string(bits)
}

func TestOpenRefusesWrongNumbers(t *testing.T) {
	pieceOf := func(values ...api.Value) piece { return one(api.Int, values...).pieces()[0] }
	two, three := pieceOf(n(1), n(2)), pieceOf(n(1), n(2), n(3))
	large := one(api.Text, s(long(1000))).pieces()[0]
	large.packed = "\x01\x02\x00\x00\x00\x01\x00" + "\x03\xe9" + long(1001)
	larger := piece{zone(s(long(1001)), s(long(1001)), 0), large.packed}
	for what, body := range map[string]string{
		"no columns":                     laid(0, nil),
		"no columns, and rows":           laid(3, nil),
		"33 columns":                     laid(2, slices.Repeat([]piece{two}, 33)),
		"33 columns without rows":        laid(0, slices.Repeat([]piece{pieceOf()}, 33)),
		"255 columns":                    laid(2, slices.Repeat([]piece{two}, 255)),
		"more rows than there are":       laid(3, []piece{two}),
		"fewer rows than there are":      laid(1, []piece{two}),
		"no rows where there are some":   laid(0, []piece{two}),
		"rows where there are none":      laid(1, []piece{pieceOf()}),
		"the first column is shorter":    laid(3, []piece{two, three}),
		"the first column is longer":     laid(3, []piece{three, two}),
		"the second column is shorter":   laid(2, []piece{three, two}),
		"the second column is longer":    laid(2, []piece{two, three}),
		"4097 rows":                      laid(4097, []piece{{zone(null, null, 4097), nulls(4097)}}),
		"a text that is too long":        laid(1, []piece{large}),
		"a text that is too long, known": laid(1, []piece{larger}),
		"no packed column":               laid(0, []piece{{zone(null, null, 0), ""}}),
		"columns at each other's place":  laid(2, []piece{{two.zone, pieceOf(n(7), null).packed}, {pieceOf(n(7), null).zone, two.packed}}),
		"a byte behind a column":         laid(2, []piece{{two.zone, two.packed + "\x00"}}),
		"a kind that is none":            laid(0, []piece{{zone(null, null, 0), "\x01\x03\x00\x00\x00\x00\x00"}}),
		"a scheme that is none":          laid(0, []piece{{zone(null, null, 0), "\x05\x01\x00\x00\x00\x00\x00"}}),
		"another mark":                   "S2" + laid(2, []piece{two})[2:],
		"a small mark":                   "s1" + laid(2, []piece{two})[2:],
		"nothing":                        "",
		"a mark":                         "S1",
		"zeros":                          strings.Repeat("\x00", 100000),
		"bytes of ones":                  strings.Repeat("\xff", 100000),
		"a mark, and ones":               "S1" + strings.Repeat("\xff", 100000),
		"32 columns of ones":             "S1\x20" + strings.Repeat("\xff", 3000000),
		"32 columns, and zeros":          "S1\x20" + strings.Repeat("\x00", 3000000),
	} {
		refused(t, what, sealed(body))
		refused(t, what+", not sealed", body)
	}
	if text := sealed(laid(4096, []piece{{zone(null, null, 4096), nulls(4096)}})); seg.Open(text) != api.OK || seg.Rows(text) != 4096 {
		t.Error("4096 rows are not too many")
	}
	if text := sealed(laid(2, slices.Repeat([]piece{two}, 32))); seg.Open(text) != api.OK || len(seg.Kinds(text)) != 32 {
		t.Error("32 columns are not too many")
	}
}

// The bytes of two columns, parted at every wrong place.
func TestOpenRefusesColumnsPartedElsewhere(t *testing.T) {
	a := sample{[]int{api.Int, api.Text}, [][]api.Value{{n(3), s("x")}, {n(8), null}}}
	pieces := a.pieces()
	both := pieces[0].packed + pieces[1].packed
	for at := range len(both) + 1 {
		text := sealed(laid(2, []piece{{pieces[0].zone, both[:at]}, {pieces[1].zone, both[at:]}}))
		if at != len(pieces[0].packed) {
			refused(t, "parted elsewhere", text)
		} else if seg.Open(text) != api.OK {
			t.Error("parted where they are")
		}
	}
}

func TestOpenOfALargeOneThatIsDamaged(t *testing.T) {
	r := rand.New(rand.NewSource(12))
	text := []byte(mustBuild(t, random(r, api.MaxColumns, api.MaxRows)))
	if seg.Open(string(text)) != api.OK {
		t.Fatal("it is a segment")
	}
	for range 200 {
		i := r.Intn(len(text))
		text[i] ^= 1
		if seg.Open(string(text)) != api.ErrDamage {
			t.Errorf("byte %d turned", i)
		}
		text[i] ^= 1
	}
	refused(t, "cut", string(text[:len(text)-1]))
}
