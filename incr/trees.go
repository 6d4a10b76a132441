package incr

import (
	"excise/aggtree"
	"excise/api"
	"excise/path"
)

// A block is the rows of a section within a row. Each one has a tree, also if no column of it is read: its rows may be counted.
type block struct {
	at      api.Row
	section int
}

// around is the block in which a row stands. The root stands in none: its one has no tree, and what is done to that is nothing.
func (m *Incr) around(r api.Row) block {
	parent, _ := path.Parent(m.plan.sects, r)
	return block{parent, r.Section}
}

// look does something with a tree, and counts the nodes at which that looks.
func (m *Incr) look(at block, do func(rows *aggtree.Tree)) {
	rows := m.trees[at]
	before := rows.Looked()
	do(rows)
	m.looked += rows.Looked() - before
}

// put puts a row, with what its fields have, into the tree in which it stands; those of its own are empty.
func (m *Incr) put(r api.Row, place int) {
	for _, kid := range m.plan.kids(r.Section) {
		m.trees[block{r, kid}], _ = aggtree.New(m.plan.scales[kid]...)
	}
	var values []api.Value
	for _, item := range m.plan.columns[r.Section] {
		// Of a line this is a blank, till it is reckoned.
		v, _ := m.store.Get(api.Cell{Row: r, Item: item})
		values = append(values, v)
	}
	m.look(m.around(r), func(rows *aggtree.Tree) { rows.Insert(place, path.Id(m.plan.sects, r), values...) })
}

// mend gives a cell its value in the tree, if it stands in a column there.
func (m *Incr) mend(c api.Cell, v api.Value) {
	column := m.plan.item(spot{c.Row.Section, c.Item}).column
	if column != none {
		m.look(m.around(c.Row), func(rows *aggtree.Tree) { rows.Set(path.Id(m.plan.sects, c.Row), column, v) })
	}
}

// drop forgets what was kept of a row itself.
func (m *Incr) drop(r api.Row) {
	for _, kid := range m.plan.kids(r.Section) {
		delete(m.trees, block{r, kid})
	}
	for item := range m.plan.items[r.Section] {
		delete(m.values, api.Cell{Row: r, Item: item})
	}
}

// within are a row and all rows within it; of one that is not there it alone.
func (m *Incr) within(r api.Row) []api.Row {
	rows := []api.Row{r}
	for _, kid := range m.plan.kids(r.Section) {
		for _, inner := range m.store.Rows(r, kid) {
			rows = append(rows, m.within(inner)...)
		}
	}
	return rows
}
