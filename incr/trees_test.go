package incr

import (
	"math/rand/v2"
	"slices"
	"testing"

	"excise/api"
	"excise/path"
	"excise/schema"
)

const nested = `return r { field a : amount 0 ; line all : amount 0 up = sum ( k . b ) + sum ( k . s ) + rows ( o ) ; check some = rows ( k ) > 3 ;
	section k max 9 { field b : amount 0 ; field w : text ; line s : amount 0 up = sum ( m . d ) + count ( m . w2 ) ; check low = b < s ;
		section m max 9 { line d : amount 0 up = if ( blank ( c ) , a , c * 2 ) ; field c : amount 0 ; field w2 : text ; section n max 2 { line e : amount 0 up = a ; } } }
	section o max 9 { line f : amount 0 up = a ; section p max 9 { } } }`

// Behind any changes there is a tree for each kid section of each row, with its rows as they stand, and what the columns that are read have; of rows that are gone nothing is kept.
func TestTrees(t *testing.T) {
	s, at, e := schema.New(nested)
	if e != api.OK {
		t.Fatal("schema.New", at, e)
	}
	for seed := range uint64(60) {
		r := rand.New(rand.NewPCG(seed, 6))
		m, _ := New(s)
		for n := range 150 {
			m.Do(someEdit(r, m))
			if n%10 == 9 {
				m.holdTrees(t)
			}
		}
		for again, made := range []func() (*Incr, api.Errno){func() (*Incr, api.Errno) { return From(m.store) }, func() (*Incr, api.Errno) { return m.Clone(), api.OK }} {
			other, e := made()
			if e != api.OK {
				t.Fatal(again, e)
			}
			other.holdTrees(t)
		}
	}
}

// someEdit is a change of any kind; rows go more seldom than they come.
func someEdit(r *rand.Rand, m *Incr) api.Edit {
	rows := slices.Collect(m.store.All())
	e := api.Edit{Kind: []int{api.EdInsert, api.EdInsert, api.EdInsert, api.EdMove, api.EdSet, api.EdSet, api.EdSet, api.EdClear, api.EdDelete}[r.IntN(9)], Row: rows[r.IntN(len(rows))], Place: r.IntN(3), Item: r.IntN(3)}
	kids := m.plan.kids(e.Row.Section)
	if len(kids) > 0 {
		e.Section = kids[r.IntN(len(kids))]
	}
	e.Value = api.Value{Kind: api.VNum, Num: api.Dec{N: api.Nat{uint64(r.IntN(5))}}}
	if r.IntN(3) == 0 {
		e.Value = api.Value{Kind: api.VText, Text: "x"}
	}
	return e
}

func (m *Incr) holdTrees(t *testing.T) {
	t.Helper()
	trees, lines := 0, 0
	for at := range m.store.All() {
		for _, kid := range m.plan.kids(at.Section) {
			trees++
			m.holdTree(t, block{at, kid})
		}
		for item, of := range m.plan.items[at.Section] {
			if of.Kind == api.ItField {
				continue
			}
			lines++
			if _, ok := m.values[api.Cell{Row: at, Item: item}]; !ok {
				t.Fatal("no value of", at, item)
			}
		}
	}
	if len(m.trees) != trees || len(m.values) != lines {
		t.Fatal("what is gone is kept:", len(m.trees), trees, len(m.values), lines)
	}
}

func (m *Incr) holdTree(t *testing.T, at block) {
	t.Helper()
	var rows []api.Row
	for id, values := range m.trees[at].All() {
		r, _ := path.Kid(m.plan.sects, at.at, at.section, id)
		rows = append(rows, r)
		for n, item := range m.plan.columns[at.section] {
			if v, e := m.Value(api.Cell{Row: r, Item: item}); v != values[n] || e != api.OK {
				t.Fatal("a column has", values[n], "not", v, e)
			}
		}
	}
	if !slices.Equal(rows, m.store.Rows(at.at, at.section)) || m.trees[at] == nil {
		t.Fatal("the rows of", at, "stand as", rows)
	}
}
