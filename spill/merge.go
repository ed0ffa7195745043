package spill

import "tallyhouse/api"

// head: a run, and the row that was its first one, which is held.
type head struct {
	row []api.Value
	run int
}

// merger reads runs, each of them in order, as if they were one. Its heads are
// a heap: none is behind those at twice its place and one or two more.
type merger struct {
	*yard
	order order
	heads []head
}

// open the runs: the first row of each is read.
func (m *merger) open(runs []int) api.Errno {
	for _, run := range runs {
		row, there, e := m.Next(run)
		if e != api.OK {
			return e
		}
		if there {
			m.heads = append(m.heads, head{row: row, run: run})
		} else if e := m.Drop(run); e != api.OK {
			return e
		}
	}
	for i := len(m.heads)/2 - 1; i >= 0; i-- {
		m.settle(i)
	}
	return api.OK
}

// step: the run of the first head, whose row has gone, has its next row read,
// or is dropped where there is none.
func (m *merger) step() api.Errno {
	row, there, e := m.Next(m.heads[0].run)
	if e != api.OK {
		return e
	}
	if there {
		m.heads[0].row = row
		m.settle(0)
		return api.OK
	}
	run, last := m.heads[0].run, len(m.heads)-1
	m.heads[0] = m.heads[last]
	m.heads = m.heads[:last]
	m.settle(0)
	return m.Drop(run)
}

// skip rows that are the same as this one.
func (m *merger) skip(row []api.Value) api.Errno {
	for len(m.heads) > 0 && m.order(m.heads[0].row, row) == 0 {
		m.Let(1)
		if e := m.step(); e != api.OK {
			return e
		}
	}
	return api.OK
}

// settle a head among those behind it, which are a heap but for it.
func (m *merger) settle(i int) {
	for {
		least := i
		for child := 2*i + 1; child <= 2*i+2 && child < len(m.heads); child++ {
			if m.order(m.heads[child].row, m.heads[least].row) < 0 {
				least = child
			}
		}
		if least == i {
			return
		}
		m.heads[i], m.heads[least] = m.heads[least], m.heads[i]
		i = least
	}
}
