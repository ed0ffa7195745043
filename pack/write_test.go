package pack_test

import (
	"math"
	"slices"
	"strconv"
	"testing"

	"tallyhouse/api"
	"tallyhouse/pack"
)

func TestWriteByHand(t *testing.T) {
	sevens := byHand(api.Int, numbers(7, 7, 7, 7, 7, 7))
	mixed := byHand(api.Int, []api.Value{n(-1), null, n(3), n(-1)})
	named := byHand(api.Text, []api.Value{s("b"), null, s(""), s("b"), s("b")})
	for _, c := range []struct {
		v      api.Vec
		scheme int
		want   string
	}{
		{byHand(api.Int, nil), plain, "\x01\x01\x00\x00\x00\x00\x00"},
		{byHand(api.Int, nil), runs, "\x02\x01\x00\x00\x00\x00\x00\x00\x00\x00\x00"},
		{byHand(api.Int, nil), words, "\x03\x01\x00\x00\x00\x00\x00\x00\x00"},
		{byHand(api.Int, nil), offsets, "\x04\x01\x00\x00\x00\x00\x00\x00\x00\x00\x00\x00\x00\x00\x00\x00"},
		{byHand(api.Text, nil), plain, "\x01\x02\x00\x00\x00\x00\x00"},
		{byHand(api.Int, []api.Value{null, null}), plain, "\x01\x01\x00\x00\x00\x02\x01\x03"},
		{byHand(api.Int, []api.Value{null, null}), offsets, "\x04\x01\x00\x00\x00\x02\x01\x03\x00\x00\x00\x00\x00\x00\x00\x00\x00"},
		{byHand(api.Int, numbers(258)), plain, "\x01\x01\x00\x00\x00\x01\x00\x00\x00\x00\x00\x00\x00\x01\x02"},
		{sevens, runs, "\x02\x01\x00\x00\x00\x06\x00\x00\x00\x00\x01\x00\x00\x00\x06\x00\x00\x00\x00\x00\x00\x00\x07"},
		{sevens, words, "\x03\x01\x00\x00\x00\x06\x00\x00\x01\x00\x00\x00\x00\x00\x00\x00\x07"},
		{sevens, offsets, "\x04\x01\x00\x00\x00\x06\x00\x00\x00\x00\x00\x00\x00\x00\x07\x00"},
		{mixed, plain, "\x01\x01\x00\x00\x00\x04\x01\x02\xff\xff\xff\xff\xff\xff\xff\xff\x00\x00\x00\x00\x00\x00\x00\x03\xff\xff\xff\xff\xff\xff\xff\xff"},
		{mixed, words, "\x03\x01\x00\x00\x00\x04\x01\x02\x00\x02\xff\xff\xff\xff\xff\xff\xff\xff\x00\x00\x00\x00\x00\x00\x00\x03\x02"},
		{mixed, offsets, "\x04\x01\x00\x00\x00\x04\x01\x02\xff\xff\xff\xff\xff\xff\xff\xff\x03\x20\x00"},
		{named, plain, "\x01\x02\x00\x00\x00\x05\x01\x02\x00\x01b\x00\x00\x00\x01b\x00\x01b"},
		{named, runs, "\x02\x02\x00\x00\x00\x05\x01\x02\x00\x00\x00\x03\x00\x00\x00\x01\x00\x01b\x00\x00\x00\x01\x00\x00\x00\x00\x00\x02\x00\x01b"},
		{named, words, "\x03\x02\x00\x00\x00\x05\x01\x02\x00\x02\x00\x00\x00\x01b\x0d"},
		// Nulls do not part a run.
		{byHand(api.Int, []api.Value{n(1), null, n(1)}), runs, "\x02\x01\x00\x00\x00\x03\x01\x02\x00\x00\x00\x01\x00\x00\x00\x02\x00\x00\x00\x00\x00\x00\x00\x01"},
		{byHand(api.Int, numbers(math.MaxInt64, math.MinInt64)), offsets, "\x04\x01\x00\x00\x00\x02\x00\x80\x00\x00\x00\x00\x00\x00\x00\x40\xff\xff\xff\xff\xff\xff\xff\xff\x00\x00\x00\x00\x00\x00\x00\x00"},
	} {
		if got, e := pack.Write(c.v, c.scheme); e != api.OK || got != c.want {
			t.Errorf("Write(%v, %d) = %q, error %d, not %q", c.v, c.scheme, got, e, c.want)
		}
	}
}

func TestWriteAsSpelled(t *testing.T) {
	for _, a := range samples() {
		for _, scheme := range a.schemes() {
			if got, want := mustWrite(t, a.vec(), scheme), spelled(a, scheme); got != want {
				t.Errorf("Write(%.200v, %d) = %.200q, not %.200q", a.values, scheme, got, want)
			}
		}
	}
}

func TestWriteRefuses(t *testing.T) {
	refused := func(what string, v api.Vec, scheme int, want api.Errno) {
		t.Helper()
		if got, e := pack.Write(v, scheme); e != want || got != "" {
			t.Errorf("%s, scheme %d: %.200q, error %d, not only error %d", what, scheme, got, e, want)
		}
	}
	few, many := byHand(api.Int, numbers(1)), byHand(api.Int, make([]api.Value, api.MaxRows+1))
	text, manyTexts := byHand(api.Text, texts("a")), byHand(api.Text, make([]api.Value, api.MaxRows+1))
	broken := byHand(api.Int, make([]api.Value, api.MaxRows+1))
	broken.N[api.MaxRows] = 1
	for _, scheme := range []int{-1, 0, 5, 6, 255, 256 + plain, math.MinInt, math.MaxInt} {
		for _, v := range []api.Vec{few, many, text, manyTexts, broken, {}} {
			refused("no such scheme", v, scheme, api.ErrArg)
		}
	}
	for _, scheme := range []int{plain, runs, words, offsets} {
		for _, v := range append(badVecs(), broken) {
			refused("a vec that is not good", v, scheme, api.ErrArg)
		}
		refused("many numbers", many, scheme, api.ErrLarge)
		if scheme != offsets {
			refused("many texts", manyTexts, scheme, api.ErrLarge)
		}
	}
	for _, v := range []api.Vec{text, manyTexts, byHand(api.Text, nil), byHand(api.Text, []api.Value{null})} {
		refused("offsets of texts", v, offsets, api.ErrArg)
	}
	countless := byHand(api.Int, made(70000, func(i int) api.Value { return n(int64(i)) }))
	refused("more words than can be counted", countless, words, api.ErrLarge)
}

func TestPackIsTheShortest(t *testing.T) {
	for _, a := range samples() {
		want := spelled(a, plain)
		for _, scheme := range a.schemes() {
			if other := spelled(a, scheme); len(other) < len(want) {
				want = other
			}
		}
		if got, e := pack.Pack(a.vec()); e != api.OK || got != want {
			t.Errorf("Pack(%.200v) = %.200q, error %d, not %.200q", a.values, got, e, want)
		}
	}
}

func TestPackChooses(t *testing.T) {
	far := int64(1) << 62
	for _, c := range []struct {
		what   string
		kind   int
		values []api.Value
		want   int
	}{
		{"nothing", api.Int, nil, plain},
		{"nulls alone", api.Int, make([]api.Value, 100), plain},
		{"one number", api.Int, numbers(7), plain},
		{"sevens", api.Int, numbers(7, 7, 7, 7, 7, 7), offsets},
		{"near numbers", api.Int, numbers(1000, 1001, 1002, 1003), offsets},
		{"two far numbers by turns", api.Int, slices.Repeat(numbers(-far, far), 50), words},
		{"two far numbers in long runs", api.Int, append(slices.Repeat(numbers(-far), 500), slices.Repeat(numbers(far), 500)...), runs},
		{"unlike far numbers", api.Int, numbers(-far, far, 0, 5), plain},
		{"one text", api.Text, texts("abc"), plain},
		{"one text many times", api.Text, slices.Repeat(texts("abc"), 500), words},
		{"texts in long runs", api.Text, append(slices.Repeat(texts("abc"), 500), slices.Repeat(texts("abd"), 500)...), runs},
		{"texts by turns", api.Text, slices.Repeat(texts("abc", "abd"), 50), words},
	} {
		got, e := pack.Pack(byHand(c.kind, c.values))
		if e != api.OK || pack.Scheme(got) != c.want {
			t.Errorf("%s: scheme %d, error %d, not %d", c.what, pack.Scheme(got), e, c.want)
		}
	}
}

// Of several as short, the lowest scheme's is taken.
func TestPackOfSeveralAsShort(t *testing.T) {
	far := int64(1) << 62
	unlike := made(1363, func(i int) api.Value { return s(strconv.Itoa(i)) })
	for _, c := range []struct {
		low, high int
		a         sample
	}{
		{plain, runs, sample{api.Text, append(unlike, slices.Repeat(texts(""), 2731)...)}},
		{plain, words, sample{api.Text, texts("", "")}},
		{plain, offsets, sample{api.Int, numbers(0, 1<<25)}},
		{runs, words, sample{api.Int, append(slices.Repeat(numbers(-far), 40), slices.Repeat(numbers(far), 40)...)}},
		{runs, offsets, sample{api.Int, append(slices.Repeat(numbers(0), 100), append(slices.Repeat(numbers(3), 20), slices.Repeat(numbers(1), 4)...)...)}},
		{words, offsets, sample{api.Int, slices.Repeat(numbers(0, 3), 36)}},
	} {
		low, high := spelled(c.a, c.low), spelled(c.a, c.high)
		if len(low) != len(high) {
			t.Errorf("schemes %d and %d: %d and %d bytes", c.low, c.high, len(low), len(high))
		}
		if got, e := pack.Pack(c.a.vec()); e != api.OK || got != low {
			t.Errorf("schemes %d and %d as short: scheme %d, error %d", c.low, c.high, pack.Scheme(got), e)
		}
	}
}

func TestPackRefuses(t *testing.T) {
	broken := byHand(api.Text, make([]api.Value, api.MaxRows+1))
	broken.S[0] = "a"
	for _, v := range append(badVecs(), broken) {
		if got, e := pack.Pack(v); got != "" || e != api.ErrArg {
			t.Errorf("Pack(%.200v) = %.200q, error %d", v, got, e)
		}
	}
	for _, kind := range []int{api.Int, api.Text} {
		v := byHand(kind, make([]api.Value, api.MaxRows+1))
		if got, e := pack.Pack(v); got != "" || e != api.ErrLarge {
			t.Errorf("Pack of too many values: %.200q, error %d", got, e)
		}
	}
}
