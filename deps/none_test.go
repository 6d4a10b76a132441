package deps_test

import (
	"math"
	"slices"
	"testing"

	"excise/api"
	"excise/deps"
	"excise/path"
	"excise/schema"
	"excise/store"
)

// away are rows that are not in taleOf, or may not be at all.
func away(x ret) []api.Row {
	return []api.Row{
		row(jobs, 99), row(jobs, x.Next()), row(days, 1, 99), row(parts, 1, 6, 99), row(cars, 12), row(yards, 1), // never given
		row(jobs, 5), row(cars, 1), row(jobs, 3), row(days, 3, 5), row(days, 1, 7), row(notes, 2, 7), row(days, 2, 11), row(parts, 1, 5, 8), row(holes, 1, 5), // of another section or row
		row(root.Section, 1), row(jobs), row(jobs, 0, 1), row(jobs, 1, 6), row(days, 1), row(days, 1, 6, 8), row(parts, 1, 6), // too many ids, too few
		row(jobs, -1), row(jobs, math.MinInt64), row(jobs, math.MaxInt64), row(jobs, api.MaxId+1),
		row(-1), row(-1, 1), row(-2, 1, 5), row(8), row(8, 1), row(8, 1, 6), row(99, 1, 6, 8), row(math.MinInt, 1), row(math.MaxInt, 1), row(math.MinInt), row(math.MaxInt),
	}
}

// awayCells are cells that are not in taleOf.
func awayCells(x ret) []api.Cell {
	var l []api.Cell
	for _, r := range away(x) {
		for _, item := range append([]int{0, 1, 2}, noPlaces...) {
			l = append(l, cell(r, item))
		}
	}
	for r := range x.All() {
		for _, item := range append([]int{len(x.l[r.Section].Items)}, noPlaces...) {
			l = append(l, cell(r, item))
		}
	}
	return l
}

// nothing holds that nothing is told of cells.
func nothing(t *testing.T, x *store.Store, l []api.Cell) {
	t.Helper()
	for _, c := range l {
		for n, got := range [][]api.Cell{deps.Reads(x, c), deps.Users(x, c), deps.Sort(x, c), deps.Dirty(x, c), deps.Sort(x, c, c), deps.Dirty(x, c, c)} {
			if len(got) != 0 {
				t.Errorf("call %d of %v: %v", n, c, got)
			}
		}
		if n := deps.Rank(x, c); n != 0 {
			t.Errorf("Rank of %v: %d", c, n)
		}
	}
	if got := deps.Sort(x, l...); len(got) != 0 {
		t.Error("Sort", got)
	}
	if got := deps.Dirty(x, l...); len(got) != 0 {
		t.Error("Dirty", got)
	}
}

// nothingOfRow holds that nothing is told of a row.
func nothingOfRow(t *testing.T, x *store.Store, r api.Row) {
	t.Helper()
	if got := deps.Own(x, r); len(got) != 0 {
		t.Errorf("Own of %v: %v", r, got)
	}
	for _, section := range append([]int{0, 1, 2, 3, 4, 5, 6, 7, 8}, noPlaces...) {
		if got := deps.Over(x, r, section); len(got) != 0 {
			t.Errorf("Over of %v, %d: %v", r, section, got)
		}
	}
}

// Returns that no call made.
func TestNotMade(t *testing.T) {
	made := taleOf(t)
	rows := append(away(made), slices.Collect(made.All())...)
	cells := append(awayCells(made), made.everyCell()...)
	none, e := store.New(nil)
	if e != api.ErrMade {
		t.Fatal(e)
	}
	for _, x := range []*store.Store{nil, {}, new(store.Store), none} {
		if got := deps.Cells(x); len(got) != 0 {
			t.Error("Cells", got)
		}
		nothing(t, x, cells)
		for _, r := range rows {
			nothingOfRow(t, x, r)
		}
	}
}

// A return whose schema its owner has overwritten: with none nothing is known any more, with another one just no call panics.
func TestSchemaOverwritten(t *testing.T) {
	for _, other := range []string{"", "return r { }", "return r { section k max 9 { field a : amount 0 ; section m max 9 { line b : amount 0 up = a ; } } line c : amount 0 up = sum ( k . a ) ; }"} {
		x := taleOf(t)
		every, s := x.everyCell(), &schema.Schema{}
		if other != "" {
			s, _, _ = schema.New(other)
		}
		*x.Schema() = *s
		for _, c := range every {
			deps.Own(x.Store, c.Row)
			for section := range x.l {
				deps.Over(x.Store, c.Row, section)
			}
			deps.Reads(x.Store, c)
			deps.Users(x.Store, c)
			deps.Dirty(x.Store, c)
			deps.Rank(x.Store, c)
		}
		cells, sorted, dirty := deps.Cells(x.Store), deps.Sort(x.Store, every...), deps.Dirty(x.Store, every...)
		if other == "" {
			nothing(t, x.Store, every)
			if len(cells)+len(sorted)+len(dirty) > 0 {
				t.Error("of no schema", cells, sorted, dirty)
			}
		}
	}
}

// Cells and rows that are not there, alone.
func TestAway(t *testing.T) {
	x := taleOf(t)
	nothing(t, x.Store, awayCells(x))
	for _, r := range away(x) {
		nothingOfRow(t, x.Store, r)
	}
}

// What is not there counts for nothing among what is.
func TestAwayAmongOthers(t *testing.T) {
	x := taleOf(t)
	l := awayCells(x)
	for n, c := range x.everyCell() {
		l = slices.Insert(l, (n*7)%len(l), c)
	}
	x.want("Sort", deps.Sort(x.Store, l...), taleSorted)
	want := deps.Dirty(x.Store, x.everyCell()...)
	if got := deps.Dirty(x.Store, l...); !slices.Equal(got, want) || len(got) == 0 {
		t.Error("Dirty", x.text(got))
	}
	few := []api.Cell{cell(row(jobs, 99), 1), x.cell("/jobs:2.pay"), cell(root, -1), cell(root, 6), x.cell("/.total"), cell(row(-1), 0), x.cell("/.total")}
	x.want("Sort", deps.Sort(x.Store, few...), "/jobs:2.pay /.total")
	x.want("Dirty", deps.Dirty(x.Store, few...), "/.total /.due /jobs:1/days:6/parts:8.named /jobs:1/days:6/parts:9.named /jobs:2/days:7/parts:10.named /cars:4.less /cars:3.less /.some")
}

// A row that was there, and all that was within it.
func TestDeleted(t *testing.T) {
	x := taleOf(t)
	var gone []api.Row
	for r := range x.All() {
		if path.Within(x.l, r, row(jobs, 1)) {
			gone = append(gone, r)
		}
	}
	if len(gone) != 5 || x.Delete(row(jobs, 1)) != api.OK {
		t.Fatal("Delete", gone)
	}
	for _, r := range gone {
		nothing(t, x.Store, []api.Cell{cell(r, 0), cell(r, 1), cell(r, 2), cell(r, 3)})
		nothingOfRow(t, x.Store, r)
	}
	x.want("Sort", deps.Sort(x.Store, cell(row(jobs, 1), 2), x.cell("/jobs:2.pay"), cell(row(days, 1, 6), 1)), "/jobs:2.pay")
	x.want("Dirty", deps.Dirty(x.Store, cell(row(jobs, 1), 2), x.cell("/.f"), cell(row(days, 1, 6), 1)), "/jobs:2/days:7.own /jobs:2/days:7/parts:10.share /jobs:2/days:7.most")
	x.each("Users", deps.Users, "/.fee", "/.due /jobs:2/days:7.own /jobs:2/days:7/parts:10.named /cars:4.twice /cars:3.twice")
	x.each("Reads", deps.Reads, "/.total", "/jobs:2.pay")
}

// An insert, a delete and a move are seen by the next call.
func TestChangesAreSeen(t *testing.T) {
	x := taleOf(t)
	x.want("Over", deps.Over(x.Store, root, cars), "/.total")
	x.add(cars, 1, "/")
	x.each("Users", deps.Users, "/.total", "/.due /jobs:1/days:6/parts:8.named /jobs:1/days:6/parts:9.named /jobs:2/days:7/parts:10.named /cars:4.less /cars:12.less /cars:3.less")
	x.each("Reads", deps.Reads, "/cars:12.twice", "/.fee /cars:12.km")
	x.want("Own", deps.Own(x.Store, x.row("/cars:12")), "/cars:12.twice /cars:12.less")
	x.want("Sort", deps.Sort(x.Store, x.cells("/cars:3.km /cars:12.km /cars:4.km")...), "/cars:4.km /cars:12.km /cars:3.km")
	if _, e := x.Move(x.row("/cars:4"), 2); e != api.OK {
		t.Fatal("Move", e)
	}
	x.want("Sort", deps.Sort(x.Store, x.cells("/cars:3.km /cars:12.km /cars:4.km")...), "/cars:12.km /cars:3.km /cars:4.km")
	if _, e := x.Move(x.row("/jobs:2"), 0); e != api.OK {
		t.Fatal("Move", e)
	}
	x.each("Reads", deps.Reads, "/.total", "/jobs:2.pay /jobs:1.pay")
	x.each("Users", deps.Users, "/.f", "/jobs:2/days:7.own /jobs:1/days:6.own /jobs:1/days:5.own")
	x.want("Dirty", deps.Dirty(x.Store, x.cell("/.f")), "/jobs:2/days:7.own /jobs:1/days:6.own /jobs:1/days:5.own /jobs:2/days:7/parts:10.share /jobs:1/days:6/parts:8.share /jobs:1/days:6/parts:9.share /jobs:2/days:7.most /jobs:1/days:6.most")
	if e := x.Delete(x.row("/jobs:1/days:6")); e != api.OK {
		t.Fatal("Delete", e)
	}
	x.each("Reads", deps.Reads, "/jobs:1.hours", "/jobs:1/days:5.h", "/jobs:1/days:5.most", "")
	x.each("Users", deps.Users, "/jobs:1.wage", "/jobs:1.pay /jobs:1/days:5.own")
	x.want("Cells", deps.Cells(x.Store), `/.due /.total /.some /.still /jobs:2.short /jobs:2.pay /jobs:2.hours /jobs:2/days:7.most /jobs:2/days:7.own
		/jobs:2/days:7/parts:10.share /jobs:2/days:7/parts:10.named /jobs:1.short /jobs:1.pay /jobs:1.hours /jobs:1/days:5.most /jobs:1/days:5.own
		/cars:12.twice /cars:12.less /cars:3.twice /cars:3.less /cars:4.twice /cars:4.less`)
}

// What is put in says nothing of what reads what.
func TestValuesSayNothing(t *testing.T) {
	x := taleOf(t)
	before := look(x)
	for _, c := range x.everyCell() {
		v := api.Value{Kind: x.l[c.Row.Section].Items[c.Item].Type.Kind, Num: api.Dec{Scale: x.l[c.Row.Section].Items[c.Item].Type.Scale}}
		x.Set(c, v)
	}
	if v, e := x.Get(x.cell("/.fee")); v.Kind != api.VNum || e != api.OK {
		t.Fatal("Get", v, e)
	}
	if !alike(before, look(x)) {
		t.Error("other cells")
	}
}

// R3: no call changes the return, writes to what is handed in, or keeps a part of what is told.
func TestNothingIsShared(t *testing.T) {
	x := taleOf(t)
	before := look(x)
	rows, plain, next, text := slices.Collect(x.All()), x.Plain(), x.Next(), x.Schema().Text()
	every := x.everyCell()
	slices.Reverse(every)
	for _, l := range [][]api.Cell{every, every[:3], every[3:4], append(every[5:9:9], every[6])} {
		kept := slices.Clone(l)
		for _, got := range [][]api.Cell{deps.Sort(x.Store, l...), deps.Dirty(x.Store, l...)} {
			spoil(got)
		}
		if !slices.Equal(l, kept) {
			t.Fatal("what was handed in was written to")
		}
	}
	for _, l := range look(x).lists {
		spoil(l)
	}
	if !alike(before, look(x)) {
		t.Error("what was told is shared")
	}
	if !slices.Equal(rows, slices.Collect(x.All())) || !store.Same(plain, x.Plain()) || next != x.Next() || text != x.Schema().Text() {
		t.Error("the return was changed")
	}
}

// spoil overwrites a list, and what may lie behind it.
func spoil(l []api.Cell) {
	l = l[:cap(l)]
	for n := range l {
		l[n] = cell(row(99, 9, 9, 9), -1)
	}
}

// A list of Sort that is in order already is told in memory of its own, too.
func TestSortIsNotTheList(t *testing.T) {
	x := taleOf(t)
	l := x.cells("/.fee /.total /.due")
	spoil(deps.Sort(x.Store, l...))
	x.want("the list", l, "/.fee /.total /.due")
}
