package sketch_test

import (
	"strconv"

	"tallyhouse/api"
)

var null = api.Value{}

func num(n int64) api.Value { return api.Value{Kind: api.Int, N: n} }

func text(s string) api.Value { return api.Value{Kind: api.Text, S: s} }

// mixed: the value of a number, of all kinds: null, numbers, texts.
func mixed(n int) api.Value {
	switch {
	case n == 0:
		return null
	case n%2 == 0:
		return num(int64(n/2) - 3)
	default:
		return text("t" + strconv.Itoa(n/2))
	}
}

// lessValue by the document's words: null, numbers, texts.
func lessValue(a, b api.Value) bool {
	switch {
	case a.Kind != b.Kind:
		return a.Kind < b.Kind
	case a.Kind == api.Int:
		return a.N < b.N
	default:
		return a.S < b.S
	}
}
