package token_test

import (
	"math"
	"math/rand"
	"slices"
	"strconv"
	"strings"
	"testing"

	"tallyhouse/token"
)

func word(s string) token.Tree { return token.Tree{Kind: token.Word, S: s} }

func text(s string) token.Tree { return token.Tree{Kind: token.Text, S: s} }

func list(parts ...token.Tree) token.Tree { return token.Tree{Kind: token.List, Parts: parts} }

func same(a, b token.Tree) bool {
	return a.Kind == b.Kind && a.S == b.S && slices.EqualFunc(a.Parts, b.Parts, same)
}

func TestRead(t *testing.T) {
	for from, want := range map[string]token.Tree{
		"a":                    word("a"),
		"az09_#-":              word("az09_#-"),
		"-":                    word("-"),
		"#":                    word("#"),
		"()":                   list(),
		"( )":                  list(),
		" \t\n(\n\t ) \t\n":    list(),
		"(a)":                  list(word("a")),
		"(a b)":                list(word("a"), word("b")),
		"(a\tb\nc  d)":         list(word("a"), word("b"), word("c"), word("d")),
		"(a(b)c)":              list(word("a"), list(word("b")), word("c")),
		"(()(()))":             list(list(), list(list())),
		`""`:                   text(""),
		` "" `:                 text(""),
		`" "`:                  text(" "),
		`"()"`:                 text("()"),
		`("a""b")`:             list(text("a"), text("b")),
		`(a"b"c)`:              list(word("a"), text("b"), word("c")),
		`("a"())`:              list(text("a"), list()),
		`"\00\0a\1f\7f\80\ff"`: text("\x00\n\x1f\x7f\x80\xff"),
		`"\22\5c"`:             text(`"\`),
		`" !#[]~'"`:            text(" !#[]~'"),
		`"aB9"`:                text("aB9"),
		`"\5c\5c5c"`:           text(`\\5c`),
	} {
		if got, ok := token.Read(from); !ok || !same(got, want) {
			t.Errorf("Read(%q) = %v, %v", from, got, ok)
		}
	}
}

func TestReadOfWhatIsNoTree(t *testing.T) {
	for _, from := range []string{
		"", " ", "\n\t ", "(", ")", "((", "())", ")(", "(a", "a)", "(a))", "a b", "() ()", "()a", "a()", `"a" "b"`, `a"b"`,
		"A", "(aB)", "(a.b)", "a,", "a+", "(a\rb)", "(a\vb)", "(a\fb)", "(a\x00)", "\u00a0a", "\xff", "\xc3\xa9", "'a'", "[a]", "(a;)",
		`"`, `"a`, `("a)`, `"\"`, `"\`, `"\0`, `"\0"`, `"\00`, `"\0g"`, `"\g0"`, `"\0A"`, `"\A0"`, `"\FF"`, `"\ 0"`, `"\-1"`, `"\n"`, `"\\"`, `"\""`,
		"\"\n\"", "\"\t\"", "\"\x00\"", "\"\x1f\"", "\"\x7f\"", "\"\x80\"", "\"\xff\"",
		`"\20"`, `"\21"`, `"\23"`, `"\41"`, `"\5b"`, `"\5d"`, `"\7e"`,
	} {
		if got, ok := token.Read(from); ok || !same(got, token.Tree{}) {
			t.Errorf("Read(%q) = %v, %v", from, got, ok)
		}
	}
}

func TestQuotedOfEachByte(t *testing.T) {
	const digits = "0123456789abcdef"
	for b := range 256 {
		want := string([]byte{'"', byte(b), '"'})
		if b < 32 || b > 126 || b == 34 || b == 92 {
			want = `"\` + digits[b/16:b/16+1] + digits[b%16:b%16+1] + `"`
		}
		if got := token.Quoted(string([]byte{byte(b)})); got != want {
			t.Errorf("byte %d: %s, not %s", b, got, want)
		}
		for _, other := range []string{`"\` + digits[b/16:b/16+1] + digits[b%16:b%16+1] + `"`, string([]byte{'"', byte(b), '"'})} {
			if got, ok := token.Read(other); ok != (other == want) || ok && !same(got, text(string([]byte{byte(b)}))) {
				t.Errorf("Read(%q) = %v, %v", other, got, ok)
			}
		}
	}
	if token.Quoted("") != `""` || token.Quoted("a\x00\"b\\") != `"a\00\22b\5c"` {
		t.Error("Quoted")
	}
}

// written: a tree as a text, with blanks between its tokens that r chooses,
// where there may be none with none.
func written(r *rand.Rand, tree token.Tree) string {
	blanks := func(least int) string {
		s := ""
		for range least + r.Intn(3) {
			s += string(" \t\n"[r.Intn(3)])
		}
		return s
	}
	switch tree.Kind {
	case token.Word:
		return tree.S
	case token.Text:
		return token.Quoted(tree.S)
	}
	s := "("
	for i, part := range tree.Parts {
		needed := 0
		if i > 0 && part.Kind == token.Word && tree.Parts[i-1].Kind == token.Word {
			needed = 1
		}
		s += blanks(needed) + written(r, part)
	}
	return s + blanks(0) + ")"
}

func anyTree(r *rand.Rand, height int) token.Tree {
	switch kind := r.Intn(4); {
	case kind == 0:
		return word([]string{"a", "scan", "#1", "-7", "0", "a_b"}[r.Intn(6)])
	case kind == 1:
		s := make([]byte, r.Intn(4))
		r.Read(s)
		return text(string(s))
	case height == 1:
		return list()
	}
	var parts []token.Tree
	for range r.Intn(5) {
		parts = append(parts, anyTree(r, height-1))
	}
	return list(parts...)
}

func TestReadOfMany(t *testing.T) {
	r := rand.New(rand.NewSource(1))
	for range 20000 {
		tree := anyTree(r, 5)
		from := written(r, tree)
		if got, ok := token.Read(" " + from + "\n"); !ok || !same(got, tree) {
			t.Fatalf("Read(%q) = %v, %v", from, got, ok)
		}
		cut := from[:r.Intn(len(from))]
		if got, ok := token.Read(cut); ok && tree.Kind == token.List {
			t.Fatalf("a beginning of a list, %q, is read as %v", cut, got)
		}
	}
}

func TestReadOfWhatIsNestedDeeply(t *testing.T) {
	const deep = 1 << 16
	tree, ok := token.Read(strings.Repeat("(", deep) + strings.Repeat(")", deep))
	if !ok {
		t.Fatal("it is none")
	}
	for range deep - 1 {
		tree = tree.Parts[0]
	}
	if len(tree.Parts) != 0 {
		t.Error("it is deeper than it was")
	}
	if _, ok := token.Read(strings.Repeat("(", deep)); ok {
		t.Error("what has no end is read")
	}
}

func TestNumber(t *testing.T) {
	for _, n := range []int64{0, 1, -1, 9, 10, -10, 100, math.MaxInt64, math.MinInt64, math.MaxInt64 - 1, math.MinInt64 + 1, 1 << 31} {
		if got, ok := token.Number(strconv.FormatInt(n, 10)); !ok || got != n {
			t.Errorf("Number of %d: %d, %v", n, got, ok)
		}
	}
	for _, s := range []string{"", "-", "-0", "00", "01", "-01", "--1", "1-", "1-1", "+1", " 1", "1 ", "1a", "a", "#1", "_1", "1_000", "0x1", "1e3", "9223372036854775808", "-9223372036854775809", "99999999999999999999"} {
		if got, ok := token.Number(s); ok || got != 0 {
			t.Errorf("Number of %q: %d, %v", s, got, ok)
		}
	}
}

func TestIsName(t *testing.T) {
	for _, s := range []string{"a", "z", "t1", "a_b", "a__", "z9_", strings.Repeat("a", 40), "a" + strings.Repeat("_", 39)} {
		if !token.IsName(s) {
			t.Errorf("%q is a name", s)
		}
	}
	for _, s := range []string{"", "_", "_a", "1", "1a", "A", "aB", "a-b", "a#", "#a", "-a", "a b", " a", "a ", "a.b", "\u00e9", "a\x00", "a\xff", "a{", "a`", "`", "{", "a/", "a:", strings.Repeat("a", 41), strings.Repeat("a", 1000)} {
		if token.IsName(s) {
			t.Errorf("%q is no name", s)
		}
	}
}

func TestListed(t *testing.T) {
	for want, parts := range map[string][]string{"()": nil, "(a)": {"a"}, "(a b)": {"a", "b"}, "(a (b) ())": {"a", "(b)", "()"}} {
		if got := token.Listed(parts); got != want {
			t.Errorf("%s, not %s", got, want)
		}
	}
}

func TestEach(t *testing.T) {
	sizes := func(parts ...token.Tree) []int {
		return token.Each(parts, func(tree token.Tree) int { return len(tree.S) })
	}
	if got := sizes(word("abc"), text(""), list(), word("a")); !slices.Equal(got, []int{3, 0, 0, 1}) {
		t.Errorf("Each: %v", got)
	}
	if got := sizes(); len(got) != 0 {
		t.Errorf("Each of none: %v", got)
	}
}
