package store_test

import (
	"slices"
	"testing"

	"excise/api"
	"excise/path"
	"excise/store"
)

func TestRows(t *testing.T) {
	x := peopled(t)
	rows(t, x, root, 1, row(1, 1), row(1, 2))
	rows(t, x, root, 4, row(4, 7))
	rows(t, x, row(1, 1), 2, row(2, 1, 3), row(2, 1, 4))
	rows(t, x, row(1, 2), 2)
	rows(t, x, row(2, 1, 3), 3, row(3, 1, 3, 5), row(3, 1, 3, 6))
	rows(t, x, row(2, 1, 4), 3)
	kids := [][]int{{1, 4}, {2}, {3}, nil, nil}
	for _, at := range peopledRows() {
		for section := -2; section < 8; section++ {
			if list := x.Rows(at, section); len(list) > 0 && !slices.Contains(kids[at.Section], section) {
				t.Error("Rows of what is no kid", at, section, list)
			}
		}
		for _, section := range noPlaces {
			rows(t, x, at, section)
		}
	}
}

func TestHas(t *testing.T) {
	x := peopled(t)
	for _, r := range peopledRows() {
		if !x.Has(r) {
			t.Error("Has", r)
		}
	}
	for _, r := range append(awayRows(), wrongRows()...) {
		if x.Has(r) {
			t.Error("Has", r)
		}
	}
}

// TestAllOrder: by kid sections ahead of places, a row's kids ahead of the row behind it.
func TestAllOrder(t *testing.T) {
	x := newOf(t, "return r { section a max 9 { section b max 9 { } section c max 9 { section d max 9 { } } } section e max 9 { } }")
	e1 := insert(t, x, root, 5, 0)
	a2 := insert(t, x, root, 1, 0)
	c3 := insert(t, x, a2, 3, 0)
	b4 := insert(t, x, a2, 2, 0)
	c5 := insert(t, x, a2, 3, 0)
	d6 := insert(t, x, c3, 4, 0)
	a7 := insert(t, x, root, 1, 0)
	b8 := insert(t, x, a7, 2, 0)
	b9 := insert(t, x, a2, 2, 1)
	want := []api.Row{root, a7, b8, a2, b4, b9, c5, c3, d6, e1}
	if got := all(x); !slices.Equal(got, want) {
		t.Errorf("All: %v, not %v", got, want)
	}
}

func TestAllStops(t *testing.T) {
	x := peopled(t)
	told, want := x.All(), peopledRows()
	for n := range len(want) {
		var got []api.Row
		for r := range told {
			got = append(got, r)
			if len(got) == n+1 {
				break
			}
		}
		if !slices.Equal(got, want[:n+1]) {
			t.Errorf("All, stopped behind %d: %v", n+1, got)
		}
	}
	for range 2 {
		if got := slices.Collect(told); !slices.Equal(got, want) {
			t.Error("All again", got)
		}
	}
	asked := 0
	told(func(api.Row) bool { asked++; return false })
	if asked != 1 {
		t.Error("All goes on where it was stopped", asked)
	}
}

// TestAllStays: it tells what was there when it was asked for, whatever is done behind that or amid it.
func TestAllStays(t *testing.T) {
	x, want := peopled(t), peopledRows()
	told := x.All()
	insert(t, x, root, 4, 0)
	x.Move(row(1, 1), 1)
	x.Delete(row(2, 1, 3))
	if got := slices.Collect(told); !slices.Equal(got, want) {
		t.Error("All behind changes", got)
	}
	for _, change := range []func(r api.Row){
		func(r api.Row) { x.Delete(r) },
		func(r api.Row) { x.Insert(root, 4, 0) },
		func(r api.Row) { x.Move(r, 0); x.Delete(row(1, 1)) },
	} {
		x = peopled(t)
		var got []api.Row
		for r := range x.All() {
			got = append(got, r)
			change(r)
		}
		if !slices.Equal(got, want) {
			t.Error("All amid changes", got)
		}
	}
	x = peopled(t)
	told = x.All()
	for _, r := range slices.Backward(want[1:]) {
		x.Delete(r)
	}
	if got := slices.Collect(told); !slices.Equal(got, want) || x.Len() != 0 {
		t.Error("All of what is gone", got, x.Len())
	}
}

func TestSchema(t *testing.T) {
	s := schemaOf(t, tale)
	x, _ := store.New(s)
	y, _ := store.Fill(s, x.Plain())
	for _, x := range []*store.Store{x, y, x.Clone()} {
		if x.Schema() != s {
			t.Error("Schema", x.Schema())
		}
	}
}

func TestClone(t *testing.T) {
	x := peopled(t)
	set(t, x, root, 4, text("x"))
	set(t, x, row(3, 1, 3, 5), 0, num(t, 5, 0))
	x.Delete(row(4, 7))
	y := x.Clone()
	if y == x || !alike(look(t, x), look(t, y)) {
		t.Error("Clone", look(t, x), look(t, y))
	}
	for _, pair := range [][2]*store.Store{{x, y}, {y, x}} {
		one, other := pair[0], pair[1]
		before := look(t, other)
		for n, change := range []func(x *store.Store) api.Errno{
			func(x *store.Store) api.Errno { return x.Set(cell(root, 0), num(t, 1, 2)) },
			func(x *store.Store) api.Errno { return x.Set(cell(row(3, 1, 3, 6), 0), num(t, 1, 0)) },
			func(x *store.Store) api.Errno { return x.Clear(cell(root, 4)) },
			func(x *store.Store) api.Errno { _, e := x.Move(row(1, 1), 1); return e },
			func(x *store.Store) api.Errno { _, e := x.Move(row(3, 1, 3, 5), 1); return e },
			func(x *store.Store) api.Errno { _, e := x.Insert(root, 4, 0); return e },
			func(x *store.Store) api.Errno { _, e := x.Insert(row(2, 1, 4), 3, 0); return e },
			func(x *store.Store) api.Errno { return x.Delete(row(2, 1, 3)) },
			func(x *store.Store) api.Errno { return x.Delete(row(1, 1)) },
		} {
			was := look(t, one)
			if e := change(one); e != api.OK || alike(was, look(t, one)) {
				t.Error("the change", n, "of a return with a clone", e)
			}
			if !alike(before, look(t, other)) {
				t.Error("the change", n, "changed the other one to", look(t, other))
			}
		}
	}
	if !alike(look(t, x), look(t, y)) {
		t.Error("the same changes of both", look(t, x), look(t, y))
	}
}

// TestCloneOfClone: what was changed between is in the second alone.
func TestCloneOfClone(t *testing.T) {
	x := peopled(t)
	y := x.Clone()
	insert(t, y, root, 4, 0)
	z := y.Clone()
	set(t, z, row(4, 8), 1, num(t, 1, 18))
	get(t, y, row(4, 8), 1, blank)
	if x.Next() != 8 || y.Next() != 9 || z.Next() != 9 || x.Has(row(4, 8)) || !z.Has(row(4, 8)) {
		t.Error("clones of clones", x.Next(), y.Next(), z.Next())
	}
}

// TestOwnAnswers: what is told is the asker's own.
func TestOwnAnswers(t *testing.T) {
	x := peopled(t)
	set(t, x, root, 4, text("x"))
	before := look(t, x)
	list := x.Rows(root, 1)
	again := x.Rows(root, 1)
	list[0], list[1] = row(4, 9), row(4, 9)
	_ = append(list[:1], row(4, 9))
	if !slices.Equal(again, []api.Row{row(1, 1), row(1, 2)}) {
		t.Error("Rows shares memory", again)
	}
	i := x.Plain()
	spoil(i)
	for range x.All() {
		x.Rows(row(1, 1), 2)[0] = root
	}
	if !alike(before, look(t, x)) {
		t.Error("a return was changed by what it told", look(t, x))
	}
	sects := x.Schema().Sects()
	for n := range sects {
		sects[n].Max, sects[n].Items = 0, nil
	}
	insert(t, x, root, 1, 0)
	get(t, x, root, 4, text("x"))
}

// spoil writes to all lists of an Inst, and behind them.
func spoil(i api.Inst) {
	for n := range i.Values {
		i.Values[n] = api.Value{Kind: 9}
	}
	for _, list := range i.Kids {
		for n := range list {
			spoil(list[n])
			list[n] = api.Inst{Values: []api.Value{{Kind: 8}}}
		}
		_ = append(list, api.Inst{Values: []api.Value{{Kind: 7}}})
	}
	for n := range i.Kids {
		i.Kids[n] = append(i.Kids[n], api.Inst{})
	}
	_ = append(i.Values, api.Value{Kind: 6})
	_ = append(i.Kids, nil)
}

// TestUndo is P16.6: Delete undoes Insert, but for the next id, and a Move there and back changes nothing.
func TestUndo(t *testing.T) {
	x := peopled(t)
	set(t, x, row(1, 2), 1, flag(true))
	for _, c := range []struct {
		at      api.Row
		section int
	}{{root, 1}, {root, 4}, {row(1, 2), 2}, {row(2, 1, 3), 3}, {row(2, 1, 4), 3}} {
		for place := range len(x.Rows(c.at, c.section)) + 1 {
			before := look(t, x)
			r := insert(t, x, c.at, c.section, place)
			if !x.Has(r) || x.Len() != before.size+1 || x.Next() != before.next+1 {
				t.Error("Insert", r, x.Len(), x.Next())
			}
			if e := x.Delete(r); e != api.OK {
				t.Error("Delete", e)
			}
			before.next++
			if !alike(before, look(t, x)) {
				t.Error("Delete of what was put in left", look(t, x))
			}
		}
	}
	for _, r := range peopledRows()[1:] {
		parent, _ := path.Parent(x.Schema().Sects(), r)
		for to := range x.Rows(parent, r.Section) {
			before := look(t, x)
			was, e := x.Move(r, to)
			if place, _ := x.Place(r); e != api.OK || place != to {
				t.Error("Move", r, to, place, e)
			}
			if back, e := x.Move(r, was); back != to || e != api.OK || !alike(before, look(t, x)) {
				t.Error("Move there and back", r, to, look(t, x))
			}
		}
	}
}
