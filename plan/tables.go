package plan

import (
	"slices"

	"tallyhouse/api"
	"tallyhouse/cell"
	"tallyhouse/token"
)

// areWellMade: are these tables, without their rows, good?
func areWellMade(tables []api.Table) bool {
	names := make([]string, len(tables))
	for i, table := range tables {
		if !hasGoodColumns(table) {
			return false
		}
		names[i] = table.Name
	}
	return areNames(names)
}

func hasGoodColumns(table api.Table) bool {
	if len(table.Columns) < 1 || len(table.Columns) > api.MaxColumns {
		return false
	}
	names := make([]string, len(table.Columns))
	for i, column := range table.Columns {
		if isNoKind(column.Kind) {
			return false
		}
		names[i] = column.Name
	}
	return areNames(names)
}

// areNames: are all of them names, and no two the same?
func areNames(list []string) bool {
	return !slices.ContainsFunc(list, isNoName) && areUnlike(list)
}

func isNoName(s string) bool { return !token.IsName(s) }

func isNoKind(kind int) bool { return kind != api.Int && kind != api.Text }

// areUnlike: are no two the same?
func areUnlike[T comparable](list []T) bool {
	times := make(map[T]int, len(list))
	for _, one := range list {
		times[one]++
		if times[one] > 1 {
			return false
		}
	}
	return true
}

// hasWrongRow: has a table, whose columns are good, a row that does not fit
// them?
func hasWrongRow(table api.Table) bool {
	return slices.ContainsFunc(table.Rows, func(row []api.Value) bool { return !Fits(row, table.Columns) })
}

// Fits: may the row stand in a table of these columns, which are good?
func Fits(row []api.Value, columns []api.Column) bool {
	if len(row) != len(columns) {
		return false
	}
	for i, v := range row {
		v = cell.Clean(v)
		if v.Kind != api.Null && v.Kind != columns[i].Kind || len(v.S) > api.MaxText {
			return false
		}
	}
	return true
}
