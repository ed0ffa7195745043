package plan_test

import (
	"math"
	"strings"
	"testing"

	"tallyhouse/api"
	"tallyhouse/plan"
	"tallyhouse/token"
)

// tree of a text that is one.
func tree(t *testing.T, text string) token.Tree {
	t.Helper()
	tree, ok := token.Read(text)
	if !ok {
		t.Fatalf("%s is no tree", text)
	}
	return tree
}

func TestPlanIn(t *testing.T) {
	for from, want := range map[string]api.Plan{
		"( distinct(scan t) )":                 distinct(scan("t")),
		"(union)":                              {Op: api.Union},
		"(filter #-1 (top () -1 -2 (scan t)))": filter(col(-1), top(scan("t"), -1, -2)),
	} {
		if got, ok := plan.PlanIn(tree(t, from)); !ok || !same(got, want) {
			t.Errorf("PlanIn(%s) = %+v, %v", from, got, ok)
		}
	}
	for _, from := range []string{"t", "()", "(scan)", "((scan t))", "(scan t u)", `(scan "t")`, "(show t)", "(filter (scan t))"} {
		if got, ok := plan.PlanIn(tree(t, from)); ok || !same(got, api.Plan{}) {
			t.Errorf("PlanIn(%s) = %+v, %v", from, got, ok)
		}
	}
}

func TestNameIn(t *testing.T) {
	for _, from := range []string{"t", "t_0", "null", strings.Repeat("z", api.MaxName)} {
		if got, ok := plan.NameIn(tree(t, from)); !ok || got != from {
			t.Errorf("NameIn(%s) = %s, %v", from, got, ok)
		}
	}
	for _, from := range []string{"0t", "_t", "#0", "t-t", "1", `"t"`, "(t)", "()", strings.Repeat("z", api.MaxName+1)} {
		if got, ok := plan.NameIn(tree(t, from)); ok || got != "" {
			t.Errorf("NameIn(%s) = %s, %v", from, got, ok)
		}
	}
}

func TestKindIn(t *testing.T) {
	for from, want := range map[string]int{"int": api.Int, "text": api.Text} {
		if got, ok := plan.KindIn(tree(t, from)); !ok || got != want {
			t.Errorf("KindIn(%s) = %d, %v", from, got, ok)
		}
	}
	for _, from := range []string{"null", "ints", "1", `"int"`, "(int)", "()"} {
		if got, ok := plan.KindIn(tree(t, from)); ok || got != 0 {
			t.Errorf("KindIn(%s) = %d, %v", from, got, ok)
		}
	}
}

func TestValueIn(t *testing.T) {
	for from, want := range map[string]api.Value{
		"null":                 {},
		"0":                    {Kind: api.Int},
		"-7":                   {Kind: api.Int, N: -7},
		"-9223372036854775808": {Kind: api.Int, N: math.MinInt64},
		`""`:                   {Kind: api.Text},
		`"null"`:               {Kind: api.Text, S: "null"},
		`"\00 a"`:              {Kind: api.Text, S: "\x00 a"},
	} {
		if got, ok := plan.ValueIn(tree(t, from)); !ok || got != want {
			t.Errorf("ValueIn(%s) = %v, %v", from, got, ok)
		}
	}
	for _, from := range []string{"#0", "t", "-0", "01", "9223372036854775808", "(neg 1)", "(null)", "()", "int"} {
		if got, ok := plan.ValueIn(tree(t, from)); ok || got != (api.Value{}) {
			t.Errorf("ValueIn(%s) = %v, %v", from, got, ok)
		}
	}
}
