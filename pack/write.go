package pack

import (
	"math/bits"
	"slices"

	"tallyhouse/api"
	"tallyhouse/cell"
)

// written: the bytes of clean values of this kind, by a scheme that fits it.
func written(kind int, values []api.Value, scheme int) []byte {
	out := appendNumber(nil, uint64(scheme), tagBytes)
	out = appendNumber(out, uint64(kind), tagBytes)
	out = appendNumber(out, uint64(len(values)), countBytes)
	out = appendNulls(out, values)
	values = slices.DeleteFunc(slices.Clone(values), isNull)
	switch scheme {
	case byRuns:
		return appendRuns(out, values)
	case byWords:
		return appendWords(out, values)
	case byOffsets:
		return appendOffsets(out, values)
	}
	return appendPlains(out, values)
}

// appendNumber in so many bytes, the high one first.
func appendNumber(out []byte, number uint64, size int) []byte {
	for i := range size {
		out = append(out, byte(number>>(8*(size-1-i))))
	}
	return out
}

// appendBits: the numbers, of width bits each.
func appendBits(out []byte, numbers []uint64, width int) []byte {
	begin := len(out)
	out = append(out, make([]byte, bytesFor(len(numbers), width))...)
	place := 0
	for _, number := range numbers {
		// A number may begin and end within a byte: it goes in piece by
		// piece, each as long as its byte has room.
		for left := width; left > 0; {
			used := place % 8
			step := min(8-used, left)
			out[begin+place/8] |= byte(number << used)
			number >>= step
			place += step
			left -= step
		}
	}
	return out
}

// bytesFor so many numbers of width bits.
func bytesFor(count, width int) int { return (count*width + 7) / 8 }

// widthOf the numbers of so many words.
func widthOf(words int) int {
	if words == 0 {
		return 0
	}
	return bits.Len(uint(words - 1))
}

func appendNulls(out []byte, values []api.Value) []byte {
	if !slices.ContainsFunc(values, isNull) {
		return appendNumber(out, 0, tagBytes)
	}
	marks := make([]uint64, len(values))
	for i, value := range values {
		if isNull(value) {
			marks[i] = 1
		}
	}
	return appendBits(appendNumber(out, 1, tagBytes), marks, 1)
}

func appendPlain(out []byte, value api.Value) []byte {
	if value.Kind == api.Int {
		return appendNumber(out, uint64(value.N), numberBytes)
	}
	return append(appendNumber(out, uint64(len(value.S)), sizeBytes), value.S...)
}

func appendPlains(out []byte, values []api.Value) []byte {
	for _, value := range values {
		out = appendPlain(out, value)
	}
	return out
}

func appendRuns(out []byte, values []api.Value) []byte {
	var runs []byte
	count := 0
	for len(values) > 0 {
		size := runAhead(values)
		runs = appendPlain(appendNumber(runs, uint64(size), countBytes), values[0])
		count++
		values = values[size:]
	}
	return append(appendNumber(out, uint64(count), countBytes), runs...)
}

// runAhead: how many values, from the first one on, are equal.
func runAhead(values []api.Value) int {
	for i, value := range values {
		if value != values[0] {
			return i
		}
	}
	return len(values)
}

func appendWords(out []byte, values []api.Value) []byte {
	words := slices.Clone(values)
	slices.SortFunc(words, cell.Order)
	words = slices.Compact(words)
	out = appendNumber(out, uint64(len(words)), sizeBytes)
	out = appendPlains(out, words)
	numbers := make([]uint64, len(values))
	for i, value := range values {
		k, _ := slices.BinarySearchFunc(words, value, cell.Order)
		numbers[i] = uint64(k)
	}
	return appendBits(out, numbers, widthOf(len(words)))
}

// appendOffsets of numbers alone. The distance of any two numbers of 64 bits
// fits into 64 bits without a sign, to which their wrap-round leads.
func appendOffsets(out []byte, values []api.Value) []byte {
	var least int64
	if len(values) > 0 {
		least = slices.MinFunc(values, cell.Order).N
	}
	above := make([]uint64, len(values))
	width := 0
	for i, value := range values {
		above[i] = uint64(value.N) - uint64(least)
		width = max(width, bits.Len64(above[i]))
	}
	out = appendNumber(out, uint64(least), numberBytes)
	out = appendNumber(out, uint64(width), tagBytes)
	return appendBits(out, above, width)
}
