package plan_test

import (
	"slices"
	"testing"

	"tallyhouse/api"
	"tallyhouse/plan"
)

func TestScannedTables(t *testing.T) {
	all := []api.Table{{Name: "a"}, {Name: "b"}, {Name: "c"}, {Name: "d"}}
	for text, want := range map[string][]string{
		"(scan c)":      {"c"},
		"(empty (int))": nil,
		"(join 1 (scan d) (filter 1 (union (scan a) (scan d))))": {"a", "d"},
		"(minus (scan none) (scan b))":                           {"b"},
	} {
		p, e := plan.Parse(text)
		if e != api.OK {
			t.Fatalf("%s: error %d", text, e)
		}
		var names []string
		for _, table := range plan.Scanned(p, all) {
			names = append(names, table.Name)
		}
		if !slices.Equal(names, want) {
			t.Errorf("%s scans %v, not %v", text, names, want)
		}
	}
}
