// Package token: texts made of tokens, as ../../shared/doc/06-plan.md says:
// taken apart into trees, and put together.
package token

import (
	"strconv"
	"strings"

	"tallyhouse/api"
)

// Kinds of trees.
const (
	Word = 1
	Text = 2
	List = 3
)

// Tree: a word, or a text, as what it stands for, in S; or a list of trees.
type Tree struct {
	Kind  int
	S     string
	Parts []Tree
}

// Read the one tree that a text is; false, if it is none.
func Read(text string) (Tree, bool) {
	r := reader{rest: text}
	tree, ok := r.tree()
	r.skipBlanks()
	if !ok || r.rest != "" {
		return Tree{}, false
	}
	return tree, true
}

// Each of the trees, read so.
func Each[T any](trees []Tree, read func(Tree) T) []T {
	var all []T
	for _, tree := range trees {
		all = append(all, read(tree))
	}
	return all
}

// Number that a word is; false, if it is none, or is not written as numbers
// are.
func Number(word string) (int64, bool) {
	n, err := strconv.ParseInt(word, 10, 64)
	if err != nil || strconv.FormatInt(n, 10) != word {
		return 0, false
	}
	return n, true
}

// IsName: may a table, or a column, be named so?
func IsName(s string) bool {
	if len(s) < 1 || len(s) > api.MaxName || !isLetter(s[0]) {
		return false
	}
	for i := range len(s) {
		if !isNameByte(s[i]) {
			return false
		}
	}
	return true
}

// Quoted: the token of a text.
func Quoted(s string) string {
	quoted := []byte{quote}
	for i := range len(s) {
		if isPlain(s[i]) {
			quoted = append(quoted, s[i])
		} else {
			quoted = append(quoted, escape, digits[s[i]>>4], digits[s[i]&15])
		}
	}
	return string(append(quoted, quote))
}

// Listed: a list of what is written already.
func Listed(parts []string) string { return "(" + strings.Join(parts, " ") + ")" }
