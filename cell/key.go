package cell

import "tallyhouse/api"

// The bytes with which values begin in a key, and those of a text's zeros and
// end. What follows a zero is greater than the second byte of an end, so that
// a beginning of a text is ahead of it.
const (
	nullMark   = 1
	numberMark = 2
	textMark   = 3
	zeroInside = 255
	zeroAtEnd  = 1

	numberBytes = 8
	signBit     = 1 << 63
)

// Key: the row as a text whose order is that of the rows.
func Key(row []api.Value) string {
	var key []byte
	for _, v := range row {
		key = appendValue(key, v)
	}
	return string(key)
}

func appendValue(key []byte, v api.Value) []byte {
	switch v.Kind {
	case api.Int:
		return appendNumber(append(key, numberMark), v.N)
	case api.Text:
		return appendText(append(key, textMark), v.S)
	}
	return append(key, nullMark)
}

func appendNumber(key []byte, n int64) []byte {
	// With its highest bit turned a number below 0 is ahead of the others.
	u := uint64(n) ^ signBit
	for shift := 8 * (numberBytes - 1); shift >= 0; shift -= 8 {
		key = append(key, byte(u>>shift))
	}
	return key
}

func appendText(key []byte, s string) []byte {
	for i := range len(s) {
		key = append(key, s[i])
		if s[i] == 0 {
			key = append(key, zeroInside)
		}
	}
	return append(key, 0, zeroAtEnd)
}

// Row whose Key it is.
func Row(key string) ([]api.Value, api.Errno) {
	row := []api.Value{}
	for len(key) > 0 {
		v, size := firstValue(key)
		if size == 0 {
			return nil, api.ErrDamage
		}
		row = append(row, v)
		key = key[size:]
	}
	return row, api.OK
}

// firstValue of a key that is not empty, and how many bytes it takes; 0: the
// key does not begin with a value.
func firstValue(key string) (api.Value, int) {
	switch key[0] {
	case nullMark:
		return api.Value{}, 1
	case numberMark:
		return firstNumber(key)
	case textMark:
		return firstText(key)
	}
	return api.Value{}, 0
}

func firstNumber(key string) (api.Value, int) {
	if len(key) < 1+numberBytes {
		return api.Value{}, 0
	}
	u := uint64(0)
	for i := range numberBytes {
		u = u<<8 | uint64(key[1+i])
	}
	return number(int64(u ^ signBit)), 1 + numberBytes
}

func firstText(key string) (api.Value, int) {
	var s []byte
	for i := 1; i < len(key); i++ {
		if key[i] != 0 {
			s = append(s, key[i])
			continue
		}
		i++
		if i == len(key) {
			break
		}
		switch key[i] {
		case zeroInside:
			s = append(s, 0)
		case zeroAtEnd:
			return text(string(s)), i + 1
		default:
			return api.Value{}, 0
		}
	}
	return api.Value{}, 0
}
