package seg_test

import (
	"math"
	"slices"
	"testing"

	"tallyhouse/api"
	"tallyhouse/seg"
)

// Each byte as the document says it, the checksums worked out elsewhere.
func TestBuildByteByByte(t *testing.T) {
	for _, c := range []struct {
		a    sample
		want string
	}{
		{one(api.Int, n(7)), "S1\x01\x00\x00\x00\x01" +
			"\x00\x1b" + "\x02\x80\x00\x00\x00\x00\x00\x00\x07" + "\x02\x80\x00\x00\x00\x00\x00\x00\x07" + "\x02\x80\x00\x00\x00\x00\x00\x00\x00" + "\x00\x00\x00\x0f" +
			"\x01\x01\x00\x00\x00\x01\x00" + "\x00\x00\x00\x00\x00\x00\x00\x07" +
			"\x9b\x0a\x48\xde"},
		{one(api.Text), "S1\x01\x00\x00\x00\x00" +
			"\x00\x0b" + "\x01" + "\x01" + "\x02\x80\x00\x00\x00\x00\x00\x00\x00" + "\x00\x00\x00\x07" +
			"\x01\x02\x00\x00\x00\x00\x00" +
			"\x1a\x1f\xce\x04"},
		{sample{[]int{api.Text, api.Int}, [][]api.Value{{s("b"), null}, {null, null}, {s("a\x00"), null}}}, "S1\x02\x00\x00\x00\x03" +
			"\x00\x13" + "\x03a\x00\xff\x00\x01" + "\x03b\x00\x01" + "\x02\x80\x00\x00\x00\x00\x00\x00\x01" + "\x00\x00\x00\x0f" +
			"\x00\x0b" + "\x01" + "\x01" + "\x02\x80\x00\x00\x00\x00\x00\x00\x03" + "\x00\x00\x00\x08" +
			"\x01\x02\x00\x00\x00\x03\x01\x02" + "\x00\x01b" + "\x00\x02a\x00" +
			"\x01\x01\x00\x00\x00\x03\x01\x07" +
			"\x99\x2d\x89\xe7"},
	} {
		if got, e := seg.Build(c.a.kinds, c.a.rows); got != c.want || e != api.OK {
			t.Errorf("Build(%v, %v) = %q, error %d, not %q", c.a.kinds, c.a.rows, got, e, c.want)
		}
	}
}

func TestBuild(t *testing.T) {
	for _, a := range samples() {
		if got := mustBuild(t, a); got != spelled(a) {
			t.Errorf("Build(%v, %.200v) = %.200q, not %.200q", a.kinds, a.rows, got, spelled(a))
		}
	}
}

// A full segment: every bound reached at once.
func TestBuildOfTheMost(t *testing.T) {
	a := sample{}
	for i := range api.MaxColumns {
		a.kinds = append(a.kinds, api.Int+i%2)
	}
	for i := range api.MaxRows {
		row := make([]api.Value, api.MaxColumns)
		for k := range row {
			row[k] = []api.Value{n(int64(i * k)), s(long(api.MaxText - i%2))}[k%2]
		}
		a.rows = append(a.rows, row)
	}
	text := mustBuild(t, a)
	if text != spelled(a) || seg.Open(text) != api.OK || seg.Rows(text) != api.MaxRows || !slices.Equal(seg.Kinds(text), a.kinds) {
		t.Errorf("%d rows of the kinds %v, error %d", seg.Rows(text), seg.Kinds(text), seg.Open(text))
	}
}

func TestBuildTakesValuesForWhatIsCleanOfThem(t *testing.T) {
	got, e := seg.Build([]int{api.Int, api.Text}, [][]api.Value{
		{{Kind: api.Int, N: 4, S: long(2000)}, {Kind: api.Text, N: 9, S: "a"}},
		{{Kind: 3, N: 4, S: long(2000)}, {Kind: -1, S: long(2000)}},
		{{Kind: api.Null, N: 4}, {Kind: math.MaxInt, N: 1}},
	})
	want := spelled(sample{[]int{api.Int, api.Text}, [][]api.Value{{n(4), s("a")}, {null, null}, {null, null}}})
	if got != want || e != api.OK {
		t.Errorf("%q, error %d", got, e)
	}
}

func TestBuildRefuses(t *testing.T) {
	two, big := []int{api.Int, api.Text}, s(long(api.MaxText+1))
	fine := []api.Value{n(1), s("a")}
	many := slices.Repeat([][]api.Value{fine}, api.MaxRows+1)
	for what, c := range map[string]struct {
		kinds []int
		rows  [][]api.Value
		want  api.Errno
	}{
		"no kinds":                             {nil, nil, api.ErrArg},
		"no kinds, rows without values":        {[]int{}, [][]api.Value{{}}, api.ErrArg},
		"33 kinds":                             {slices.Repeat([]int{api.Int}, 33), nil, api.ErrArg},
		"289 kinds":                            {slices.Repeat([]int{api.Int}, 289), nil, api.ErrArg},
		"kind 0":                               {[]int{api.Int, api.Null}, nil, api.ErrArg},
		"kind 3":                               {[]int{3, api.Int}, nil, api.ErrArg},
		"kind -1":                              {[]int{-1}, nil, api.ErrArg},
		"a kind that is 1 in its low bits":     {[]int{1<<32 + api.Int}, nil, api.ErrArg},
		"a wrong kind, and too many rows":      {[]int{0, api.Text}, many, api.ErrArg},
		"a wrong kind, and a long text":        {[]int{0}, [][]api.Value{{big}}, api.ErrArg},
		"a wrong kind, and a short row":        {[]int{0}, [][]api.Value{{}}, api.ErrArg},
		"4097 rows":                            {two, many, api.ErrLarge},
		"4097 rows, one of a wrong kind":       {two, append(slices.Clone(many[1:]), []api.Value{s("a"), n(1)}), api.ErrLarge},
		"4097 rows without values":             {two, make([][]api.Value, api.MaxRows+1), api.ErrLarge},
		"a long text":                          {two, [][]api.Value{fine, {n(1), big}}, api.ErrLarge},
		"a long text in a column of numbers":   {two, [][]api.Value{{big, s("a")}}, api.ErrLarge},
		"a long text where no column is":       {two, [][]api.Value{{n(1), s("a"), big}}, api.ErrLarge},
		"a long text in a short row":           {[]int{api.Text, api.Int}, [][]api.Value{{big}}, api.ErrLarge},
		"a long text behind a wrong kind":      {two, [][]api.Value{{s("a"), n(1)}, {n(1), big}}, api.ErrLarge},
		"a long text behind a short row":       {two, [][]api.Value{{n(1)}, {n(1), big}}, api.ErrLarge},
		"a long text ahead of a short row":     {two, [][]api.Value{{n(1), big}, {}}, api.ErrLarge},
		"a row without values":                 {two, [][]api.Value{fine, nil}, api.ErrKind},
		"a short row":                          {two, [][]api.Value{fine, {n(1)}}, api.ErrKind},
		"a long row":                           {two, [][]api.Value{{n(1), s("a"), null}}, api.ErrKind},
		"a text in a column of numbers":        {two, [][]api.Value{fine, {s("1"), s("a")}}, api.ErrKind},
		"a number in a column of texts":        {two, [][]api.Value{fine, {n(1), n(1)}, fine}, api.ErrKind},
		"a short row behind a wrong kind":      {two, [][]api.Value{{n(1), n(1)}, {}}, api.ErrKind},
		"the last of 4096 rows is of no kind":  {two, append(slices.Clone(many[2:]), []api.Value{n(1), n(1)}), api.ErrKind},
		"one of 32 columns is of another kind": {slices.Repeat([]int{api.Int}, 32), [][]api.Value{append(slices.Repeat([]api.Value{n(1)}, 31), s(""))}, api.ErrKind},
	} {
		if got, e := seg.Build(c.kinds, c.rows); got != "" || e != c.want {
			t.Errorf("%s: %.200q, error %d, not only error %d", what, got, e, c.want)
		}
	}
}
