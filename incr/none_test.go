package incr_test

import (
	"math"
	"slices"
	"strings"
	"testing"

	"excise/api"
	"excise/incr"
	"excise/schema"
)

// One that no call made.
func TestNotMade(t *testing.T) {
	made := taleOf(t)
	none, e := incr.New(&schema.Schema{})
	if none != nil || e != api.ErrMade {
		t.Error("New", none, e)
	}
	for _, m := range []*incr.Incr{nil, {}, new(incr.Incr), none} {
		for kind := -1; kind <= 7; kind++ {
			for _, r := range []api.Row{root, row(jobs, 1), row(99), row(-1)} {
				got := m.Do(api.Edit{Kind: kind, Row: r, Section: cars, Item: 1, Value: valueOf("0.1250")})
				if !sameEdited(got, api.Edited{Err: api.ErrMade}) {
					t.Error("Do", kind, got)
				}
			}
		}
		for r := range made.Store().All() {
			for _, item := range append([]int{0, 1}, noPlaces...) {
				if v, e := m.Value(cell(r, item)); v != (api.Value{}) || e != api.ErrMade {
					t.Error("Value", v, e)
				}
				if s, e := m.Col(r, cars, item); s != (api.Sum{}) || e != api.ErrMade {
					t.Error("Col", s, e)
				}
			}
		}
		if m.Lines() != nil || m.Store() != nil || m.Clone() != nil || m.Steps() != 0 || m.Looked() != 0 {
			t.Error("Lines, Store, Clone, Steps, Looked")
		}
	}
}

// refused holds that a change is refused by an error, and that nothing has changed.
func (x kept) refused(e api.Edit, want api.Errno) {
	x.t.Helper()
	before := look(x.Incr)
	if got := x.do(e); !sameEdited(got, api.Edited{Err: want}) {
		x.t.Errorf("Do of %v: %v, not %d", e, got, want)
	}
	if !alike(before, look(x.Incr)) {
		x.t.Errorf("Do of %v has changed something", e)
	}
}

// Kinds that there are not, whatever else is asked.
func TestNoKind(t *testing.T) {
	x := taleOf(t)
	c := x.cell("/jobs:1/days:5.h")
	for _, kind := range []int{0, -1, 6, 7, 99, math.MinInt, math.MaxInt} {
		x.refused(api.Edit{Kind: kind}, api.ErrArg)
		x.refused(api.Edit{Kind: kind, Row: c.Row, Item: c.Item, Value: valueOf("9.0")}, api.ErrArg)
		x.refused(api.Edit{Kind: kind, Section: cars, Place: 1}, api.ErrArg)
		x.refused(api.Edit{Kind: kind, Row: row(cars, 3), Place: 1}, api.ErrArg)
		x.refused(api.Edit{Kind: kind, Row: row(cars, 33), Place: 1}, api.ErrArg)
	}
}

// away are rows that are not in taleOf, or may not be at all.
func away() []api.Row {
	return []api.Row{row(jobs, 99), row(jobs, 3), row(cars, 1), row(days, 2, 5), row(days, 5), row(parts, 1, 6, 10), row(yards, 1), row(jobs), row(jobs, 1, 5), row(0, 1), row(-1), row(-1, 1), row(6, 1), row(99), row(jobs, -1), row(jobs, math.MinInt64), row(math.MinInt, 1), row(math.MaxInt, 1)}
}

func TestInsertRefused(t *testing.T) {
	x := taleOf(t)
	insert := func(at api.Row, section, place int, want api.Errno) {
		t.Helper()
		x.refused(api.Edit{Kind: api.EdInsert, Row: at, Section: section, Place: place}, want)
	}
	for _, r := range away() {
		insert(r, days, 0, api.ErrNone)
		insert(r, -1, -1, api.ErrNone)
	}
	for _, section := range append([]int{0, days, parts, 6}, noPlaces...) {
		insert(root, section, 0, api.ErrArg)
	}
	insert(row(jobs, 1), jobs, 0, api.ErrArg)
	insert(row(jobs, 1), parts, 0, api.ErrArg)
	for _, place := range append([]int{3}, noPlaces...) {
		insert(root, jobs, place, api.ErrArg)
		insert(row(jobs, 1), days, place, api.ErrArg)
	}
	x.insert("/", "jobs", 2)
	insert(root, jobs, 0, api.ErrFull)
	insert(root, jobs, -1, api.ErrFull)
	x.delete("/jobs:2")
	x.insert("/", "jobs", 2)
	insert(root, jobs, 3, api.ErrFull)
}

// MaxAll rows in all.
func TestInsertFull(t *testing.T) {
	s := fullOf(t)
	x := keptFrom(t, s)
	x.refused(api.Edit{Kind: api.EdInsert, Row: row(1, 1), Section: 2}, api.ErrFull)
	x.refused(api.Edit{Kind: api.EdInsert, Section: 1, Place: 1}, api.ErrFull)
	x.refused(api.Edit{Kind: api.EdInsert, Section: 2}, api.ErrArg)
}

func TestDeleteRefused(t *testing.T) {
	x := taleOf(t)
	for _, r := range away() {
		x.refused(api.Edit{Kind: api.EdDelete, Row: r}, api.ErrNone)
	}
	x.refused(api.Edit{Kind: api.EdDelete}, api.ErrArg)
	x.delete("/jobs:1")
	for _, r := range []api.Row{row(jobs, 1), row(days, 1, 5), row(parts, 1, 6, 7)} {
		x.refused(api.Edit{Kind: api.EdDelete, Row: r}, api.ErrNone)
	}
}

func TestMoveRefused(t *testing.T) {
	x := taleOf(t)
	for _, r := range away() {
		x.refused(api.Edit{Kind: api.EdMove, Row: r}, api.ErrNone)
		x.refused(api.Edit{Kind: api.EdMove, Row: r, Place: -1}, api.ErrNone)
	}
	x.refused(api.Edit{Kind: api.EdMove}, api.ErrArg)
	for _, to := range append([]int{2}, noPlaces...) {
		x.refused(api.Edit{Kind: api.EdMove, Row: row(jobs, 1), Place: to}, api.ErrArg)
		x.refused(api.Edit{Kind: api.EdMove, Row: row(days, 1, 5), Place: to}, api.ErrArg)
	}
}

func TestSetRefused(t *testing.T) {
	x := taleOf(t)
	set := func(r api.Row, item int, v api.Value, want api.Errno) {
		t.Helper()
		x.refused(api.Edit{Kind: api.EdSet, Row: r, Item: item, Value: v}, want)
		if want != api.ErrKind {
			x.refused(api.Edit{Kind: api.EdClear, Row: r, Item: item, Value: v}, want)
		}
	}
	for _, r := range away() {
		set(r, 1, valueOf("1.0"), api.ErrNone)
		set(r, -1, valueOf("blank"), api.ErrNone)
	}
	for _, item := range append([]int{0, 2, 3, 6, 7, 8}, noPlaces...) {
		set(root, item, valueOf("1.0000"), api.ErrArg)
		set(root, item, valueOf("!3"), api.ErrArg)
	}
	set(row(days, 1, 5), 4, valueOf("1.0"), api.ErrArg)
	wrong := []api.Value{valueOf("blank"), valueOf("!1"), valueOf("'" + strings.Repeat("x", api.MaxText+1) + "'"), {Kind: 9}, {Kind: -1}, {Kind: api.VNum, Num: api.Dec{Scale: -1}},
		{Kind: api.VNum, Num: api.Dec{Neg: true, Scale: 1}}, {Kind: api.VNum, Num: api.Dec{Scale: 1}, Text: "x"}, {Kind: api.VFlag, Err: 1}, {Text: "x"}}
	for item, more := range map[int][]string{1: {"1", "1.0", "1.00000", "true", "'1'"}, 4: {"1", "'true'"}, 5: {"1", "true"}} {
		for _, v := range wrong {
			set(root, item, v, api.ErrKind)
		}
		for _, v := range more {
			set(root, item, valueOf(v), api.ErrKind)
		}
	}
	x.set("/jobs:1/days:5.h", "0.0")
}

// Fields that a Kind does not name count for nothing.
func TestOtherFields(t *testing.T) {
	x := taleOf(t)
	junk := []api.Edit{
		{Row: row(99, 9, 9, 9), Section: -1, Place: -1, Item: -1, Value: valueOf("!3")},
		{Row: row(jobs, 2), Section: days, Place: 1, Item: 1, Value: valueOf("1.00")},
		{Row: row(-1), Section: math.MaxInt, Place: math.MinInt, Item: math.MaxInt, Value: api.Value{Kind: 99, Err: -1, Text: "x", Flag: true, Num: api.Dec{Neg: true, Scale: 99}}},
	}
	same := func(plain api.Edit, filled func(e api.Edit) api.Edit) {
		t.Helper()
		clean := kept{x.Clone(), t, x.l}
		want := clean.ok(plain)
		for _, e := range junk {
			e.Kind = plain.Kind
			y := kept{x.Clone(), t, x.l}
			if got := y.do(filled(e)); !sameEdited(got, want) || !alike(look(y.Incr), look(clean.Incr)) {
				t.Errorf("Do of %v: %v, not %v", filled(e), got, want)
			}
		}
	}
	same(api.Edit{Kind: api.EdInsert, Row: row(jobs, 1), Section: days, Place: 2}, func(e api.Edit) api.Edit {
		e.Row, e.Section, e.Place = row(jobs, 1), days, 2
		return e
	})
	same(api.Edit{Kind: api.EdDelete, Row: row(days, 1, 6)}, func(e api.Edit) api.Edit {
		e.Row = row(days, 1, 6)
		return e
	})
	same(api.Edit{Kind: api.EdMove, Row: row(days, 1, 6), Place: 0}, func(e api.Edit) api.Edit {
		e.Row, e.Place = row(days, 1, 6), 0
		return e
	})
	same(api.Edit{Kind: api.EdSet, Row: row(days, 1, 6), Item: 1, Value: valueOf("7.5")}, func(e api.Edit) api.Edit {
		e.Row, e.Item, e.Value = row(days, 1, 6), 1, valueOf("7.5")
		return e
	})
	same(api.Edit{Kind: api.EdClear, Row: row(days, 1, 6), Item: 1}, func(e api.Edit) api.Edit {
		e.Row, e.Item = row(days, 1, 6), 1
		return e
	})
}

// Behind a refused change the next one is as if it had not been.
func TestRefusedIsNothing(t *testing.T) {
	x, y := taleOf(t), taleOf(t)
	for _, e := range []api.Edit{{Kind: api.EdInsert, Section: jobs, Place: 9}, {Kind: api.EdDelete}, {Kind: api.EdMove, Row: row(jobs, 1), Place: 2}, {Kind: api.EdSet, Item: 1, Value: valueOf("1")}, {Kind: api.EdClear, Item: 0}, {Kind: 9}} {
		if got := y.do(e); got.Err == api.OK {
			t.Error("Do", got)
		}
	}
	for _, z := range []kept{x, y} {
		z.insert("/", "jobs", 2)
		z.move("/jobs:10", 0)
		z.set("/.fee", "2.0000")
	}
	if !alike(look(x.Incr), look(y.Incr)) || !slices.Contains(slices.Collect(y.Store().All()), row(jobs, 10)) {
		t.Error("a refused change is seen")
	}
}
