package model

import (
	"cmp"
	"slices"

	"excise/api"
	"excise/formula"
	"excise/path"
	"excise/scope"
	"excise/summary"
)

// A spot is an item of a section.
type spot struct{ section, item int }

// reads is what a formula reads. What names and columns mean hangs on its section alone, so it is looked up once for all rows.
type reads struct {
	names []name // from within: those of its own section first
	cols  []column
}

type name struct {
	text  string
	means spot
}

type column struct {
	key   api.ColKey
	means spot
	scale int
}

// none stands for the item of a column that just counts rows. No cell has it, so that its values are blanks.
const none = -1

// readsOf finds what an expression in a section reads. An accepted definition has all of that.
func (m *Model) readsOf(section int, x api.Expr) reads {
	var found reads
	for _, text := range formula.Names(x) {
		from, item, _ := scope.Find(m.sects, section, text)
		found.names = append(found.names, name{text, spot{from, item}})
	}
	// A section's number is above those of all sections around it.
	slices.SortFunc(found.names, func(a, b name) int { return cmp.Compare(b.means.section, a.means.section) })
	for _, key := range formula.Cols(x) {
		kid, _ := scope.Kid(m.sects, section, key.Section)
		found.cols = append(found.cols, m.columnOf(kid, key))
	}
	return found
}

// columnOf is a column of a section.
func (m *Model) columnOf(section int, key api.ColKey) column {
	if key.Name == "" {
		return column{key: key, means: spot{section, none}}
	}
	_, item, _ := scope.Find(m.sects, section, key.Name)
	return column{key, spot{section, item}, m.sects[section].Items[item].Type.Scale}
}

// reckon goes through items' numbers in an order in which each stands behind all that it reads.
func (m *Model) reckon(order []int) {
	spots := m.spots()
	rows := make([][]api.Row, len(m.sects))
	for r := range m.store.All() {
		rows[r.Section] = append(rows[r.Section], r)
	}
	for _, n := range order {
		m.reckonItem(spots[n], rows[spots[n].section])
	}
}

// spots are all items by their numbers.
func (m *Model) spots() []spot {
	var spots []spot
	for section := range m.sects {
		for item := range m.sects[section].Items {
			spots = append(spots, spot{section, item})
		}
	}
	return spots
}

// reckonItem gives an item's cells their values, in all rows of its section.
func (m *Model) reckonItem(at spot, rows []api.Row) {
	item := m.sects[at.section].Items[at.item]
	read := m.readsOf(at.section, item.Expr)
	for _, r := range rows {
		c := api.Cell{Row: r, Item: at.item}
		if item.Kind == api.ItField {
			m.values[c], _ = m.store.Get(c)
		} else {
			m.values[c] = formula.Item(item, m.env(r, read))
		}
	}
}

// env is what a formula reads in a row; the tables in it are the model's own.
func (m *Model) env(r api.Row, read reads) api.Env {
	env := api.Env{
		Names:  make(map[string]api.Value, len(read.names)),
		Cols:   make(map[api.ColKey]api.Col, len(read.cols)),
		Tables: m.tables,
	}
	around := r
	for _, n := range read.names {
		around, _ = path.Around(m.sects, around, n.means.section)
		env.Names[n.text] = m.values[api.Cell{Row: around, Item: n.means.item}]
	}
	for _, of := range read.cols {
		env.Cols[of.key] = api.Col{Sum: m.sum(r, of), Scale: of.scale}
	}
	return env
}

// sum is a column's summary within a row.
func (m *Model) sum(at api.Row, of column) api.Sum {
	all := summary.Join()
	for _, r := range m.store.Rows(at, of.means.section) {
		all = summary.Join(all, summary.Of(m.values[api.Cell{Row: r, Item: of.means.item}], of.scale))
	}
	return all
}
