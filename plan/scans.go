package plan

import "tallyhouse/api"

// Scanned by p, which is built: those of the tables of which it speaks. (The
// others, which may be many, need not be looked at again and again.)
func Scanned(p api.Plan, tables []api.Table) []api.Table {
	times := map[string]int{}
	countScans(p, times)
	var few []api.Table
	for _, table := range tables {
		if times[table.Name] > 0 {
			few = append(few, table)
		}
	}
	return few
}

// countScans in p: how often it speaks of each table.
func countScans(p api.Plan, times map[string]int) {
	if p.Op == api.Scan {
		times[p.Table]++
	}
	for _, arg := range p.Args {
		countScans(arg, times)
	}
}
