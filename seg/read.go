package seg

import (
	"tallyhouse/api"
	"tallyhouse/pack"
)

// segment: what a segment says.
type segment struct {
	rows    int
	zones   []string
	columns []api.Vec
}

// opened: what the segment s says; ErrDamage, if it is none.
func opened(s string) (segment, api.Errno) {
	// The checksum finds nearly all damage, for little work; writing the
	// columns anew finds all of it.
	if !isSealed(s) {
		return segment{}, api.ErrDamage
	}
	g, fits := laidOut(s)
	if !fits || written(g.columns) != s {
		return segment{}, api.ErrDamage
	}
	return g, api.OK
}

func isSealed(s string) bool {
	return len(s) >= sumBytes && sealed(s[:len(s)-sumBytes]) == s
}

// laidOut: what s says, if it is a segment; that is not known yet, but there
// is a right number of columns, each as long as is told. False, if not.
func laidOut(s string) (segment, bool) {
	r := reader{rest: s}
	r.take(uint64(len(mark)))
	count := r.number(columnsBytes)
	g := segment{rows: int(r.number(rowsBytes))}
	if count < 1 || count > api.MaxColumns {
		return segment{}, false
	}
	sizes := make([]uint64, count)
	for i := range sizes {
		g.zones = append(g.zones, r.take(r.number(zoneBytes)))
		sizes[i] = r.number(packedBytes)
	}
	for _, size := range sizes {
		column, e := pack.Read(r.take(size))
		if e != api.OK || len(column.Null) != g.rows {
			return segment{}, false
		}
		g.columns = append(g.columns, column)
	}
	return g, true
}

// reader of a segment's bytes: rest is what it has not read yet. Where bytes
// are missing it reads fewer: that is found when they are written anew.
type reader struct {
	rest string
}

// take the next so many bytes.
func (r *reader) take(size uint64) string {
	end := min(size, uint64(len(r.rest)))
	taken := r.rest[:end]
	r.rest = r.rest[end:]
	return taken
}

// number of so many bytes, the high one first.
func (r *reader) number(size uint64) uint64 {
	var number uint64
	for _, b := range []byte(r.take(size)) {
		number = number<<8 | uint64(b)
	}
	return number
}
