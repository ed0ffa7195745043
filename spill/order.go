package spill

import (
	"tallyhouse/api"
	"tallyhouse/cell"
)

// order of two rows: below 0, 0 or above 0.
type order func(a, b []api.Value) int

// at: the row's value in a column; what it does not have is null.
func at(row []api.Value, column int) api.Value {
	if column < len(row) {
		return row[column]
	}
	return api.Value{}
}

// inOrder: by keys, then by the whole row. Rows that are not the same are
// never equal in it.
func inOrder(keys []api.Key) order {
	return func(a, b []api.Value) int {
		for _, key := range keys {
			found := cell.Order(at(a, key.Col), at(b, key.Col))
			if key.Desc {
				found = -found
			}
			if found != 0 {
				return found
			}
		}
		return cell.Rows(a, b)
	}
}

// rising: keys of these columns.
func rising(columns []int) []api.Key {
	keys := make([]api.Key, len(columns))
	for i, column := range columns {
		keys[i].Col = column
	}
	return keys
}

// byColumns: the order of a's values in the columns left, and b's in right.
func byColumns(a []api.Value, left []int, b []api.Value, right []int) int {
	for i := range left {
		if found := cell.Order(at(a, left[i]), at(b, right[i])); found != 0 {
			return found
		}
	}
	return 0
}

// hasAll: is there a value that is not null in each of the columns?
func hasAll(row []api.Value, columns []int) bool {
	for _, column := range columns {
		if cell.Clean(at(row, column)).Kind == api.Null {
			return false
		}
	}
	return true
}
