package cost

import (
	"tallyhouse/api"
	"tallyhouse/cell"
)

// What is reckoned with where no Stat speaks of a table.
const (
	usualRows   = 1000
	usualUnlike = 100
)

// counted: the numbers of a table, which is good.
func counted(table api.Table) api.Stat {
	stat := api.Stat{Table: table.Name, Rows: len(table.Rows)}
	for column := range table.Columns {
		each, nulls := countedColumn(table.Rows, column)
		stat.Each, stat.Nulls = append(stat.Each, each), append(stat.Nulls, nulls)
	}
	return stat
}

// countedColumn: how many unlike values that are not null it has, and how many
// nulls.
func countedColumn(rows [][]api.Value, column int) (int, int) {
	times := map[api.Value]int{}
	nulls := 0
	for _, row := range rows {
		if v := cell.Clean(row[column]); v.Kind == api.Null {
			nulls++
		} else {
			times[v]++
		}
	}
	return len(times), nulls
}

// scans: of each table, by its name, what is reckoned of a Scan of it.
type scans map[string]figures

// scansOf the tables by these numbers of them.
func scansOf(tables []api.Table, stats []api.Stat) scans {
	first := firstOfNames(stats)
	of := scans{}
	for _, table := range tables {
		of[table.Name] = scanOf(usual(table))
		if i, there := first[table.Name]; there && len(stats[i].Each) == len(table.Columns) {
			of[table.Name] = scanOf(stats[i])
		}
	}
	return of
}

// firstOfNames: where the first Stat of each name stands.
func firstOfNames(stats []api.Stat) map[string]int {
	first := map[string]int{}
	for i, stat := range stats {
		if _, there := first[stat.Table]; !there {
			first[stat.Table] = i
		}
	}
	return first
}

// usual numbers of a table.
func usual(table api.Table) api.Stat {
	stat := api.Stat{Table: table.Name, Rows: usualRows}
	for range table.Columns {
		stat.Each = append(stat.Each, usualUnlike)
	}
	return stat
}

func scanOf(stat api.Stat) figures {
	rows := within(stat.Rows)
	return figures{rows: rows, cost: rows, unlike: atMost(rows, stat.Each)}
}
