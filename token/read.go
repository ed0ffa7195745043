package token

import "strings"

const (
	quote  = '"'
	escape = '\\'
	blanks = " \t\n"
	digits = "0123456789abcdef"
)

func isLetter(b byte) bool { return b >= 'a' && b <= 'z' }

func isNameByte(b byte) bool { return isLetter(b) || b >= '0' && b <= '9' || b == '_' }

func isWordByte(b byte) bool { return isNameByte(b) || b == '#' || b == '-' }

// isPlain: does this byte stand for itself in a text?
func isPlain(b byte) bool { return b >= 32 && b <= 126 && b != quote && b != escape }

// reader of tokens: rest is what it has not read yet.
type reader struct {
	rest string
}

func (r *reader) skipBlanks() { r.rest = strings.TrimLeft(r.rest, blanks) }

// take what comes next, if it is this.
func (r *reader) take(what string) bool {
	rest, is := strings.CutPrefix(r.rest, what)
	r.rest = rest
	return is
}

// tree that comes next; false, if none does.
func (r *reader) tree() (Tree, bool) {
	r.skipBlanks()
	switch {
	case r.take("("):
		return r.list()
	case r.take(`"`):
		return r.text()
	}
	return r.word()
}

// list, behind its first token.
func (r *reader) list() (Tree, bool) {
	var parts []Tree
	for {
		r.skipBlanks()
		if r.take(")") {
			return Tree{Kind: List, Parts: parts}, true
		}
		part, ok := r.tree()
		if !ok {
			return Tree{}, false
		}
		parts = append(parts, part)
	}
}

func (r *reader) word() (Tree, bool) {
	size := 0
	for size < len(r.rest) && isWordByte(r.rest[size]) {
		size++
	}
	if size == 0 {
		return Tree{}, false
	}
	word := r.rest[:size]
	r.rest = r.rest[size:]
	return Tree{Kind: Word, S: word}, true
}

// text, behind its first quote.
func (r *reader) text() (Tree, bool) {
	var bytes []byte
	for {
		switch {
		case r.take(`"`):
			return Tree{Kind: Text, S: string(bytes)}, true
		case r.take(`\`):
			b, ok := r.escaped()
			if !ok {
				return Tree{}, false
			}
			bytes = append(bytes, b)
		case r.rest != "" && isPlain(r.rest[0]):
			bytes = append(bytes, r.rest[0])
			r.rest = r.rest[1:]
		default:
			return Tree{}, false
		}
	}
}

// escaped byte: two digits, behind the sign for it. A byte that may stand for
// itself is never written so: each text has one token alone.
func (r *reader) escaped() (byte, bool) {
	if len(r.rest) < 2 {
		return 0, false
	}
	high, low := strings.IndexByte(digits, r.rest[0]), strings.IndexByte(digits, r.rest[1])
	b := byte(high<<4 | low)
	if high < 0 || low < 0 || isPlain(b) {
		return 0, false
	}
	r.rest = r.rest[2:]
	return b, true
}
