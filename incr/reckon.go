package incr

import (
	"excise/aggtree"
	"excise/api"
	"excise/deps"
	"excise/formula"
	"excise/path"
)

// A queue is cells that wait to be reckoned, each once.
type queue struct {
	waits map[api.Cell]struct{}
	ranks map[int][]api.Cell // by ranks, in the order in which they came
}

// settle reckons cells, and those that read what has changed, each behind all that it reads: what reads a cell has a greater rank.
func (m *Incr) settle(first []api.Cell) api.Edited {
	q := queue{map[api.Cell]struct{}{}, map[int][]api.Cell{}}
	m.wait(q, first)
	var reckoned []api.Cell
	changed := map[api.Cell]struct{}{}
	for rank := 0; len(q.waits) > 0; rank++ {
		for _, c := range q.ranks[rank] {
			delete(q.waits, c)
			reckoned = append(reckoned, c)
			if m.reckon(c) {
				changed[c] = struct{}{}
				m.wait(q, m.users(c))
			}
		}
	}
	return m.tell(reckoned, changed)
}

// wait lets cells wait that do not yet.
func (m *Incr) wait(q queue, cells []api.Cell) {
	for _, c := range cells {
		if _, ok := q.waits[c]; !ok {
			q.waits[c] = struct{}{}
			rank := m.plan.item(spot{c.Row.Section, c.Item}).rank
			q.ranks[rank] = append(q.ranks[rank], c)
		}
	}
}

// tell puts cells of one rank in the order of rows. They do not read one another, so that it was all one in which order they were reckoned.
func (m *Incr) tell(reckoned []api.Cell, changed map[api.Cell]struct{}) api.Edited {
	told := api.Edited{Reckoned: deps.Sort(m.store, reckoned...)}
	for _, c := range told.Reckoned {
		if _, ok := changed[c]; ok {
			told.Changed = append(told.Changed, c)
		}
	}
	return told
}

// reckon gives a line's, or a check's, cell its value, and tells whether it had another one, or none.
func (m *Incr) reckon(c api.Cell) bool {
	of := m.plan.item(spot{c.Row.Section, c.Item})
	now := formula.Item(of.Item, m.env(c.Row, of))
	m.steps++
	if was, ok := m.values[c]; ok && was == now {
		return false
	}
	m.values[c] = now
	m.mend(c, now)
	return true
}

// env is what an item reads in a row; the tables in it are the plan's own.
func (m *Incr) env(r api.Row, of *item) api.Env {
	env := api.Env{
		Names:  make(map[string]api.Value, len(of.names)),
		Cols:   make(map[api.ColKey]api.Col, len(of.cols)),
		Tables: m.plan.tables,
	}
	for _, read := range of.names {
		around, _ := path.Around(m.plan.sects, r, read.section)
		env.Names[m.plan.item(read).Name], _ = m.Value(api.Cell{Row: around, Item: read.item})
	}
	for _, col := range of.cols {
		env.Cols[col.key] = api.Col{Sum: m.sum(r, col), Scale: col.scale}
	}
	return env
}

// sum is a column's summary within a row.
func (m *Incr) sum(at api.Row, col column) api.Sum {
	var sum api.Sum
	m.look(block{at, col.section}, func(rows *aggtree.Tree) {
		if col.column == none {
			sum = api.Sum{Rows: rows.Len(), Blank: rows.Len()}
			return
		}
		sum, _ = rows.Sum(col.column)
	})
	return sum
}

// users are the cells that read a cell, as deps.Users says. That would go through the whole definition for each cell that has changed.
func (m *Incr) users(c api.Cell) []api.Cell {
	var cells []api.Cell
	for _, user := range m.plan.item(spot{c.Row.Section, c.Item}).users {
		for _, r := range m.rows(c.Row, user.section) {
			cells = append(cells, api.Cell{Row: r, Item: user.item})
		}
	}
	return cells
}

// rows are those of a section in which a row's cells may be read: the one around the row, or all within it.
func (m *Incr) rows(r api.Row, section int) []api.Row {
	if outer, ok := path.Around(m.plan.sects, r, section); ok {
		return []api.Row{outer}
	}
	var rows []api.Row
	for _, outer := range m.rows(r, m.plan.sects[section].Parent) {
		rows = append(rows, m.store.Rows(outer, section)...)
	}
	return rows
}
