package store

import (
	"slices"

	"excise/api"
	"excise/schema"
	"excise/types"
)

// Plain is all that was put in, without ids.
func (x *Store) Plain() api.Inst {
	if !x.made() {
		return api.Inst{}
	}
	return x.plain(api.Row{})
}

// plain is a row that is there, with all within it.
func (x *Store) plain(r api.Row) api.Inst {
	i := api.Inst{Values: slices.Clone(x.rows[r].values)}
	for _, section := range x.kids[r.Section] {
		var insts []api.Inst
		for _, kid := range x.Rows(r, section) {
			insts = append(insts, x.plain(kid))
		}
		i.Kids = append(i.Kids, insts)
	}
	return i
}

// Fill is a return whose Plain is handed in; its rows get their ids in the order of All.
func Fill(s *schema.Schema, i api.Inst) (*Store, api.Errno) {
	x, e := New(s)
	if e != api.OK {
		return nil, e
	}
	if !x.fill(api.Row{}, i) {
		return nil, api.ErrArg
	}
	return x, api.OK
}

// fill puts values and rows into a row in which there is nothing yet; false, if they don't suit. It ends at the first that does not, and goes no deeper than the sections do.
func (x *Store) fill(r api.Row, i api.Inst) bool {
	kids := x.kids[r.Section]
	if !x.suit(r.Section, i.Values) || len(i.Kids) != len(kids) {
		return false
	}
	copy(x.rows[r].values, i.Values)
	for n, section := range kids {
		for place, inst := range i.Kids[n] {
			kid, e := x.Insert(r, section, place)
			if e != api.OK || !x.fill(kid, inst) {
				return false
			}
		}
	}
	return true
}

// suit tells whether a section's fields may have these values.
func (x *Store) suit(section int, values []api.Value) bool {
	fields := x.fields[section]
	if len(values) != len(fields) {
		return false
	}
	for n, place := range fields {
		if !types.Fits(values[n], x.sects[section].Items[place].Type) {
			return false
		}
	}
	return true
}

// Same tells whether two are the same.
func Same(a, b api.Inst) bool {
	return slices.Equal(a.Values, b.Values) && slices.EqualFunc(a.Kids, b.Kids, sameRows)
}

func sameRows(a, b []api.Inst) bool { return slices.EqualFunc(a, b, Same) }
