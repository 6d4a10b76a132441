package store

import (
	"iter"
	"slices"

	"excise/api"
	"excise/path"
	"excise/schema"
	"excise/seqtree"
)

// Has tells whether a row is there.
func (x *Store) Has(r api.Row) bool { return x.made() && x.rows[r] != nil }

// Place is a row's place among those of its section there.
func (x *Store) Place(r api.Row) (int, bool) {
	if !x.Has(r) {
		return 0, false
	}
	order, id, e := x.around(r)
	if e != api.OK {
		// The root stands in no order: it is the only one of its section.
		return 0, true
	}
	return order.Index(id)
}

// Rows are the rows of a section within a row, by places.
func (x *Store) Rows(at api.Row, section int) []api.Row {
	order, e := x.order(at, section)
	if e != api.OK {
		return nil
	}
	var rows []api.Row
	for _, id := range order.All() {
		r, _ := path.Kid(x.sects, at, section, id)
		rows = append(rows, r)
	}
	return rows
}

// All goes through all rows that there are when it is called, the root's first, each ahead of those within it, whatever is done to the return behind that.
func (x *Store) All() iter.Seq[api.Row] {
	var rows []api.Row
	if x.made() {
		rows = x.within(api.Row{})
	}
	return func(yield func(api.Row) bool) {
		for _, r := range rows {
			if !yield(r) {
				return
			}
		}
	}
}

// within are a row that is there, and all rows within it, in the order of All.
func (x *Store) within(r api.Row) []api.Row {
	var rows []api.Row
	var gather func(r api.Row)
	gather = func(r api.Row) {
		rows = append(rows, r)
		for _, section := range x.kids[r.Section] {
			for _, kid := range x.Rows(r, section) {
				gather(kid)
			}
		}
	}
	gather(r)
	return rows
}

// Len is how many rows there are, the root's not among them.
func (x *Store) Len() int {
	if !x.made() {
		return 0
	}
	return len(x.rows) - 1
}

// Next is the id that the next row gets.
func (x *Store) Next() int64 {
	if !x.made() {
		return 0
	}
	return x.next
}

// Schema is the schema of the return.
func (x *Store) Schema() *schema.Schema {
	if !x.made() {
		return nil
	}
	return x.schema
}

// Clone is a return with the same rows, ids and values. What follows from the schema is shared: nobody writes to it.
func (x *Store) Clone() *Store {
	if !x.made() {
		return nil
	}
	c := *x
	c.rows = make(map[api.Row]*row, len(x.rows))
	for r, old := range x.rows {
		c.rows[r] = old.clone()
	}
	return &c
}

func (r *row) clone() *row {
	c := &row{values: slices.Clone(r.values), orders: make([]*seqtree.Tree, len(r.orders))}
	for n, order := range r.orders {
		c.orders[n] = order.Clone()
	}
	return c
}
