package tally_test

import (
	"maps"
	"math"
	"math/rand"
	"slices"
	"strconv"
	"strings"

	"tallyhouse/api"
	"tallyhouse/plan"
	"tallyhouse/token"
)

// maker of commands for a machine of which the model knows all. Most of them are
// not refused.
type maker struct {
	*rand.Rand
	*model
}

func pick[T any](m maker, list []T) T { return list[m.Intn(len(list))] }

// name of a table or view that may be there, or not.
func (m maker) name() string { return pick(m, strings.Fields("t u v w x y z q")) }

// thereOf the names in a map; any, if there are none, and sometimes.
func thereOf[T any](m maker, all map[string]T) string {
	if len(all) == 0 || m.Intn(15) == 0 {
		return m.name()
	}
	return pick(m, slices.Sorted(maps.Keys(all)))
}

func (m maker) value(kind int) api.Value {
	switch {
	case m.Intn(6) == 0:
		return null
	case kind == api.Text:
		return text(pick(m, []string{"", "a", "b", "\x00", "a\"b"}))
	}
	return num(pick(m, []int64{0, 1, 2, 3, -1, math.MaxInt64, math.MinInt64}))
}

func (m maker) row(columns []api.Column) []api.Value {
	var row []api.Value
	for _, column := range columns {
		kind := column.Kind
		if m.Intn(150) == 0 {
			kind = 3 - kind
		}
		row = append(row, m.value(kind))
	}
	if m.Intn(150) == 0 {
		row = append(row, null)
	}
	return row
}

func (m maker) columns() []api.Column {
	var columns []api.Column
	for i := range 1 + m.Intn(3) {
		columns = append(columns, api.Column{Name: string('a' + rune(i)), Kind: api.Int + m.Intn(2)})
	}
	if m.Intn(15) == 0 {
		columns[0].Name = "b"
	}
	if m.Intn(30) == 0 {
		columns = nil
	}
	return columns
}

func (m maker) command() command {
	switch n := m.Intn(40); {
	case n < 3:
		return command{word: "make", name: m.name(), columns: m.columns()}
	case n < 13:
		c := command{word: "add", name: thereOf(m, m.tables)}
		for range m.Intn(4) {
			c.rows = append(c.rows, m.row(m.tables[c.name].Columns))
		}
		return c
	case n < 19:
		return m.take()
	case n < 23:
		return command{word: "view", name: m.name(), plan: m.plan(4)}
	case n < 25:
		return command{word: "drop", name: m.name()}
	case n < 30:
		return command{word: "show", name: thereOf(m, m.views)}
	case n < 32:
		return command{word: "show", name: thereOf(m, m.tables)}
	case n < 35:
		return command{word: "ask", plan: m.plan(5)}
	case n < 38:
		return command{word: "explain", plan: m.plan(5)}
	}
	return command{word: "merge", name: thereOf(m, m.tables)}
}

func (m maker) take() command {
	c := command{word: "take", name: thereOf(m, m.tables)}
	rows := m.tables[c.name].Rows
	for _, i := range m.Perm(len(rows))[:m.Intn(min(len(rows), 5)+1)] {
		c.rows = append(c.rows, rows[i])
	}
	if m.Intn(10) == 0 {
		c.rows = append(c.rows, m.row(m.tables[c.name].Columns))
	}
	return c
}

// plan as a text that Check takes, nearly always, of so much height at most.
func (m maker) plan(height int) string {
	for {
		made := m.query(height)
		p, e := plan.Parse(made)
		if m.Intn(20) == 0 {
			return made
		}
		if e == api.OK && m.span(m.replaced(p)) < 20000 {
			if _, e := plan.Check(m.replaced(p), m.all()); e == api.OK {
				return made
			}
		}
	}
}

// query: a plan as a text, which is often one that Check does not take.
func (m maker) query(height int) string {
	if height == 1 {
		if m.Intn(12) == 0 {
			return "(empty " + pick(m, []string{"(int)", "(text)", "(int text)"}) + ")"
		}
		return "(scan " + m.source() + ")"
	}
	arg := func() string { return m.query(1 + m.Intn(height-1)) }
	switch m.Intn(14) {
	case 0, 1, 2:
		return "(filter " + m.expr(3) + " " + arg() + ")"
	case 3:
		return "(project (" + m.expr(2) + " " + m.expr(3) + ") " + arg() + ")"
	case 4, 5, 6:
		return "(" + pick(m, []string{"join", "join", "leftjoin"}) + " " + m.matching() + " " + arg() + " " + arg() + ")"
	case 7:
		return "(group " + m.some() + " ((countall 0) (" + pick(m, strings.Fields("count sum least most counteach")) + " " + m.column() + ")) " + arg() + ")"
	case 8:
		return "(distinct " + arg() + ")"
	case 9:
		return "(union " + strings.Repeat(arg()+" ", 1+m.Intn(2)) + arg() + ")"
	case 10:
		return "(top " + m.keys() + " " + strconv.Itoa(m.Intn(5)) + " " + strconv.Itoa(m.Intn(3)) + " " + arg() + ")"
	case 11:
		return "(window " + pick(m, strings.Fields("number rank dense")) + " 0 0 " + m.some() + " " + m.keys() + " " + arg() + ")"
	case 12:
		return "(window " + pick(m, strings.Fields("sumover countover ahead")) + " " + m.column() + " " + strconv.Itoa(m.Intn(3)) + " " + m.some() + " " + m.keys() + " " + arg() + ")"
	}
	return "(minus " + arg() + " " + arg() + ")"
}

// source of a Scan: a table or view.
func (m maker) source() string {
	if m.Intn(2) == 0 {
		return thereOf(m, m.views)
	}
	return thereOf(m, m.tables)
}

func (m maker) column() string { return strconv.Itoa(m.Intn(3)) }

// some columns, each once.
func (m maker) some() string {
	var list []string
	for _, i := range m.Perm(2)[:m.Intn(3)] {
		list = append(list, strconv.Itoa(i))
	}
	return token.Listed(list)
}

func (m maker) keys() string { return pick(m, []string{"()", "(0)", "((desc 0))", "(1 (desc 0))"}) }

func (m maker) expr(height int) string {
	if height == 1 || m.Intn(4) == 0 {
		if m.Intn(2) == 0 {
			return "#" + m.column()
		}
		return written(m.value(api.Int + m.Intn(2)))
	}
	part := func() string { return m.expr(height - 1) }
	switch m.Intn(6) {
	case 0:
		return "(" + pick(m, strings.Fields("neg not isnull isnull len")) + " " + part() + ")"
	case 1:
		return "(" + pick(m, strings.Fields("add sub mul div mod cat")) + " " + part() + " " + part() + ")"
	case 2:
		return "(" + pick(m, strings.Fields("and or")) + " " + part() + " " + part() + ")"
	case 3:
		return "(if " + part() + " " + part() + " " + part() + ")"
	}
	return "(" + pick(m, strings.Fields("eq ne lt le gt ge")) + " #" + m.column() + " " + part() + ")"
}

// matching: the condition of a join, often that two columns are equal.
func (m maker) matching() string {
	equal := "(eq #" + strconv.Itoa(m.Intn(3)) + " #" + strconv.Itoa(1+m.Intn(4)) + ")"
	switch m.Intn(4) {
	case 0:
		return "(and " + equal + " " + m.expr(2) + ")"
	case 1:
		return m.expr(3)
	}
	return equal
}
