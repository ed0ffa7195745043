package expr_test

import (
	"fmt"
	"math"
	"testing"

	"tallyhouse/api"
	"tallyhouse/expr"
)

// Columns 0 and 1, and the constant null, are of the kinds that the letters
// of the table below name.
func part(letter byte) api.Expr {
	switch letter {
	case 'i':
		return col(0)
	case 't':
		return col(1)
	}
	return con(null)
}

// kindOf the parts' kinds, written as letters; 0: they do not fit.
func kindOf(op int, letters string) byte {
	only := func(letter, kind byte) byte {
		for i := range len(letters) {
			if letters[i] != letter && letters[i] != '-' {
				return 0
			}
		}
		return kind
	}
	switch op {
	case api.IsNull:
		return 'i'
	case api.Len:
		return only('t', 'i')
	case api.Cat:
		return only('t', 't')
	case api.Eq, api.Ne, api.Lt, api.Le, api.Gt, api.Ge:
		if letters == "it" || letters == "ti" {
			return 0
		}
		return 'i'
	case api.If:
		return map[string]byte{
			"iii": 'i', "itt": 't', "ii-": 'i', "i-i": 'i', "it-": 't', "i-t": 't', "i--": '-',
			"-ii": 'i', "-tt": 't', "-i-": 'i', "--i": 'i', "-t-": 't', "--t": 't', "---": '-',
		}[letters]
	}
	return only('i', 'i')
}

func spellings(size int) []string {
	if size == 0 {
		return []string{""}
	}
	var out []string
	for _, rest := range spellings(size - 1) {
		out = append(out, "i"+rest, "t"+rest, "-"+rest)
	}
	return out
}

func TestKindOfEachOperator(t *testing.T) {
	numbers := map[byte]int{'i': api.Int, 't': api.Text, '-': api.Null}
	for op, count := range parts {
		if count == 0 {
			continue
		}
		for _, letters := range spellings(count) {
			e := of(op)
			for i := range len(letters) {
				e.Args = append(e.Args, part(letters[i]))
			}
			want, err := 0, api.ErrKind
			if letter := kindOf(op, letters); letter != 0 {
				want, err = numbers[letter], api.OK
			}
			if kind, got := expr.Kind(e, []int{api.Int, api.Text}); kind != want || got != err {
				t.Errorf("operator %d of %s: kind %d, error %d, not %d, %d", op, letters, kind, got, want, err)
			}
		}
	}
}

func TestKindOfLeaves(t *testing.T) {
	kinds := []int{api.Text, api.Int, api.Text}
	for _, c := range []struct {
		e    api.Expr
		kind int
	}{
		{col(0), api.Text}, {col(1), api.Int}, {col(2), api.Text},
		{num(0), api.Int}, {txt(""), api.Text}, {con(null), api.Null},
	} {
		if kind, err := expr.Kind(c.e, kinds); kind != c.kind || err != api.OK {
			t.Errorf("Kind(%v) = %d, error %d, not %d", c.e, kind, err, c.kind)
		}
	}
}

func TestKindOfNullFitsWithin(t *testing.T) {
	none := of(api.If, col(0), con(null), of(api.If, num(1), con(null), con(null)))
	for _, c := range []struct {
		e    api.Expr
		kind int
		err  api.Errno
	}{
		{none, api.Null, api.OK},
		{of(api.Add, none, num(1)), api.Int, api.OK},
		{of(api.Cat, none, txt("a")), api.Text, api.OK},
		{of(api.Len, none), api.Int, api.OK},
		{of(api.Eq, none, txt("a")), api.Int, api.OK},
		{of(api.If, none, txt("a"), none), api.Text, api.OK},
		// A Neg of null is Int, as each Neg is.
		{of(api.Neg, con(null)), api.Int, api.OK},
		{of(api.Len, of(api.Neg, con(null))), 0, api.ErrKind},
		{of(api.Eq, of(api.Neg, con(null)), txt("a")), 0, api.ErrKind},
		{of(api.Neg, of(api.Cat, con(null), con(null))), 0, api.ErrKind},
		{of(api.IsNull, of(api.Len, num(1))), 0, api.ErrKind},
		{of(api.And, num(0), of(api.Not, txt("a"))), 0, api.ErrKind},
		{of(api.If, num(1), num(1), of(api.Add, txt("a"), num(1))), 0, api.ErrKind},
	} {
		if kind, err := expr.Kind(c.e, []int{api.Int}); kind != c.kind || err != c.err {
			t.Errorf("Kind(%v) = %d, error %d, not %d, %d", c.e, kind, err, c.kind, c.err)
		}
	}
}

func TestKindRefuses(t *testing.T) {
	clash := of(api.Add, txt("a"), num(1))
	for what, c := range map[string]struct {
		e     api.Expr
		kinds []int
	}{
		"a column of none":                   {col(0), nil},
		"a column behind the last":           {col(2), []int{api.Int, api.Int}},
		"the greatest column":                {col(math.MaxInt), []int{api.Int}},
		"such a column deep within":          {of(api.If, num(1), num(2), of(api.Neg, col(1))), []int{api.Int}},
		"kind null":                          {col(0), []int{api.Null}},
		"kind 3":                             {col(0), []int{3}},
		"kind -1":                            {col(0), []int{-1}},
		"a wrong kind of an unused column":   {col(0), []int{api.Int, 3}},
		"a wrong kind, and no column at all": {num(1), []int{api.Null}},
		"a wrong kind ahead of a clash":      {clash, []int{0}},
		"no such column ahead of a clash":    {of(api.Add, clash, col(0)), nil},
		"no such column behind a clash":      {of(api.Add, col(0), clash), nil},
		"not built ahead of a clash":         {of(api.Add, clash, of(api.Add, num(1))), nil},
	} {
		if kind, err := expr.Kind(c.e, c.kinds); kind != 0 || err != api.ErrArg {
			t.Errorf("%s: kind %d, error %d", what, kind, err)
		}
	}
}

// What Kind takes comes to values of the kind that it tells, over rows whose
// values are of the kinds that it was told.
func TestKindIsThatOfTheValue(t *testing.T) {
	kinds := []int{api.Int, api.Text, api.Int, api.Text, api.Int, api.Text}
	rows := [][]api.Value{
		{n(3), s("a"), n(0), s(""), n(math.MaxInt64), s(long(900))},
		{n(-1), s("b"), null, null, n(1), s("a")},
		{null, null, null, null, null, null},
	}
	counts := map[string]int{}
	for e := range manyThatFit(t) {
		kind, err := expr.Kind(e, kinds)
		counts[fmt.Sprint(kind, err)]++
		if err != api.OK {
			continue
		}
		for _, row := range rows {
			if v := expr.Eval(e, row); v != null && v.Kind != kind {
				t.Fatalf("%v has the kind %d, and the value %v", e, kind, v)
			}
		}
	}
	for _, way := range []string{"0 0", "1 0", "2 0", "0 4"} {
		if counts[way] < 100 {
			t.Errorf("kind and error %s came %d times: %v", way, counts[way], counts)
		}
	}
}
