package seg

import (
	"tallyhouse/api"
	"tallyhouse/cell"
	"tallyhouse/pack"
	"tallyhouse/vec"
)

// mark: with it every segment begins.
const mark = "S1"

// How many bytes tell a number of this sort.
const (
	columnsBytes = 1 // how many columns
	rowsBytes    = 4 // how many rows
	zoneBytes    = 2 // how long a zone is
	packedBytes  = 4 // how long a packed column is
	sumBytes     = 4 // the checksum
)

// written: the segment of these columns: at least one, all of them good, and
// as long as one another.
func written(columns []api.Vec) string {
	head := []byte(mark)
	head = appendNumber(head, uint64(len(columns)), columnsBytes)
	head = appendNumber(head, uint64(vec.Len(columns[0])), rowsBytes)
	var body []byte
	for _, column := range columns {
		// What is good, and no longer than a segment, is never refused.
		packed, _ := pack.Pack(column)
		zone := zoneOf(packed)
		head = appendNumber(head, uint64(len(zone)), zoneBytes)
		head = append(head, zone...)
		head = appendNumber(head, uint64(len(packed)), packedBytes)
		body = append(body, packed...)
	}
	return sealed(string(append(head, body...)))
}

// zoneOf a packed column: what is told of it ahead of reading it.
func zoneOf(packed string) string {
	least, greatest, nulls, _ := pack.Span(packed)
	return cell.Key([]api.Value{least, greatest, {Kind: api.Int, N: int64(nulls)}})
}

// appendNumber in so many bytes, the high one first.
func appendNumber(out []byte, number uint64, size int) []byte {
	for i := range size {
		out = append(out, byte(number>>(8*(size-1-i))))
	}
	return out
}

// sealed: s, and its checksum behind it.
func sealed(s string) string {
	return s + string(appendNumber(nil, uint64(checksum(s)), sumBytes))
}

// polynomial of the checksum, reversed.
const polynomial = 0xEDB88320

// checksum: the CRC-32 of s.
func checksum(s string) uint32 {
	steps := byteSteps()
	sum := ^uint32(0)
	for i := range len(s) {
		sum = sum>>8 ^ steps[byte(sum)^s[i]]
	}
	return ^sum
}

// byteSteps: by how much each byte, gone through bit by bit, turns a sum.
func byteSteps() [256]uint32 {
	var steps [256]uint32
	for i := range steps {
		sum := uint32(i)
		for range 8 {
			low := sum & 1
			sum = sum>>1 ^ low*polynomial
		}
		steps[i] = sum
	}
	return steps
}
