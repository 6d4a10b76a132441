package incr_test

import (
	"maps"
	"slices"
	"testing"

	"excise/api"
	"excise/incr"
	"excise/model"
	"excise/store"
)

// New: a return with the root's row, whose lines and checks are reckoned; no step was made.
func TestNew(t *testing.T) {
	x := keptOf(t, tale)
	x.hold(x.Store(), modelOf(x.Store()))
	x.is("/.fee", "blank", "/.total", "0.00", "/.due", "!3", "/.some", "!3", "/.said", "!3", "/.far", "!4")
	if x.Steps() != 0 || x.Looked() != 0 || x.Store().Next() != 1 || x.Store().Len() != 0 || len(x.Lines()) != 5 {
		t.Error(x.Steps(), x.Looked(), x.Store().Next(), x.Store().Len(), x.Lines())
	}
	if got := x.Do(api.Edit{Kind: api.EdInsert, Section: cars}); got.Row != row(cars, 1) || got.Err != api.OK {
		t.Error("Do", got)
	}
	for _, text := range []string{"return r { }", "return r { field a : text ; }", "return r { section k max 1 { section m max 1 { } } }"} {
		x := keptOf(t, text)
		x.hold(x.Store(), modelOf(x.Store()))
		if len(x.Lines()) != 0 {
			t.Error("Lines", x.Lines())
		}
	}
}

// storeOf is tale's return, with rows moved and deleted, and one that was put in again.
func storeOf(t *testing.T) *store.Store {
	t.Helper()
	x := taleOf(t).Store()
	for n, e := range []api.Edit{
		{Kind: api.EdMove, Row: row(jobs, 1), Place: 1},
		{Kind: api.EdMove, Row: row(parts, 1, 6, 9), Place: 0},
		{Kind: api.EdDelete, Row: row(parts, 1, 6, 8)},
		{Kind: api.EdDelete, Row: row(cars, 3)},
		{Kind: api.EdInsert, Section: cars, Place: 0},
		{Kind: api.EdSet, Row: row(cars, 10), Value: valueOf("1.5")},
		{Kind: api.EdInsert, Section: yards, Place: 0},
		{Kind: api.EdDelete, Row: row(yards, 11)},
	} {
		if got := change(x, e); got.Err != api.OK {
			t.Fatal(n, got)
		}
	}
	return x
}

// From: all that a return has, its ids and its next id, too.
func TestFrom(t *testing.T) {
	was := storeOf(t)
	x := keptFrom(t, was)
	x.hold(was, modelOf(was))
	x.is("/.total", "42.00", "/.far", "8", "/jobs:1/days:6.most", "17", "/jobs:1/days:6.many", "true", "/cars:10.twice", "3.0")
	if x.Steps() != 0 || x.Looked() != 0 || x.Store().Next() != 12 {
		t.Error(x.Steps(), x.Looked(), x.Store().Next())
	}
	x.want(x.move("/jobs:1/days:6/parts:7", 0), "/jobs:1/days:6.many /jobs:1/days:6.most", "")
	x.set("/jobs:1/days:6/parts:7.p", "900")
	x.is("/jobs:1/days:6.most", "212")
	x.delete("/cars:4")
	x.is("/.far", "4")
	if got := x.insert("/", "cars", 1); got.Row != row(cars, 12) {
		t.Error("Row", got.Row)
	}
	x.delete("/jobs:1")
	x.is("/.total", "2.00")
}

// What is done to the return behind From changes nothing here, nor the other way round.
func TestFromStays(t *testing.T) {
	was := storeOf(t)
	x, kept := keptFrom(t, was), was.Clone()
	for n, e := range []api.Edit{
		{Kind: api.EdSet, Row: row(cars, 4), Value: valueOf("9.0")},
		{Kind: api.EdClear, Item: 1},
		{Kind: api.EdMove, Row: row(cars, 4)},
		{Kind: api.EdDelete, Row: row(jobs, 1)},
		{Kind: api.EdInsert, Section: cars, Place: 2},
		{Kind: api.EdSet, Item: 5, Value: valueOf("'other'")},
	} {
		if got := change(was, e); got.Err != api.OK {
			t.Fatal(n, got)
		}
	}
	x.hold(kept, modelOf(kept))
	plain := was.Plain()
	if got := x.insert("/", "cars", 0); got.Row != row(cars, 12) {
		t.Error("Row", got.Row)
	}
	x.set("/.fee", "1.0000")
	x.delete("/jobs:2")
	if !store.Same(plain, was.Plain()) || !was.Has(row(jobs, 2)) || was.Has(row(jobs, 1)) {
		t.Error("the return was changed")
	}
}

// Value and Col of rows, items and sections that are not there, next to those that are: the model's errors.
func TestErrorsOfAsking(t *testing.T) {
	x := taleOf(t)
	x.delete("/jobs:1/days:6")
	now := x.Store()
	want := modelOf(now)
	found := map[api.Errno]int{}
	rows := append(slices.Collect(now.All()), row(jobs, 99), row(days, 1, 6), row(parts, 1, 6, 7), row(days, 2, 5), row(jobs, 3), row(cars, 1), row(-1), row(6), row(99, 1), row(jobs), row(jobs, 0), row(jobs, 1, 5), row(root.Section, 1), row(jobs, -1), row(days, 5))
	for _, r := range rows {
		for _, item := range append([]int{0, 1, 2, 3, 4, 5, 6, 7, 8, 9}, noPlaces...) {
			v, wrong := want.Value(cell(r, item))
			if got, e := x.Value(cell(r, item)); got != v || e != wrong {
				t.Errorf("Value of %v %d: %v %d, not %v %d", r, item, got, e, v, wrong)
			}
			found[wrong]++
			for _, section := range append([]int{0, 1, 2, 3, 4, 5, 6}, noPlaces...) {
				x.holdCol(want, r, section, item)
				_, wrong := want.Col(r, section, item)
				found[100+wrong]++
			}
		}
	}
	for _, e := range []api.Errno{api.OK, api.ErrNone, api.ErrArg, 100, 100 + api.ErrNone, 100 + api.ErrArg} {
		if found[e] < 15 {
			t.Error("only", found[e], "times", e)
		}
	}
}

// Col of a column that is read, of one that nobody reads, of lines, fields, numbers, flags and texts, and of a section without rows.
func TestCol(t *testing.T) {
	x := keptOf(t, `return r { line all : amount 2 up = sum ( k . a ) ; section k max 9 { field a : amount 2 ; field b : amount 1 ; field f : flag ; field w : text ; line l : amount 0 up = a ; check c = f ; line g : flag = f ; } }`)
	cols := func(want ...api.Sum) {
		t.Helper()
		for item, sum := range want {
			if got, e := x.Col(root, 1, item); got != sum || e != api.OK {
				t.Errorf("Col of %d: %v %d, not %v", item, got, e, sum)
			}
		}
	}
	cols(api.Sum{}, api.Sum{}, api.Sum{}, api.Sum{}, api.Sum{})
	x.insert("/", "k", 0)
	x.insert("/", "k", 0)
	blank := api.Sum{Rows: 2, Blank: 2}
	cols(blank, blank, blank, blank, blank)
	x.set("/k:1.a", "2.50")
	x.set("/k:2.a", "1.25")
	x.set("/k:2.b", "0.5")
	x.set("/k:2.f", "false")
	x.set("/k:1.w", "''")
	number := func(s string) api.Dec { return valueOf(s).Num }
	cols(api.Sum{Rows: 2, Filled: 2, Total: api.Wide{375}, Some: true, Min: number("1.25"), Max: number("2.50")},
		api.Sum{Rows: 2, Filled: 1, Blank: 1, Total: api.Wide{5}, Some: true, Min: number("0.5"), Max: number("0.5")},
		api.Sum{Rows: 2, Filled: 1, Blank: 1}, api.Sum{Rows: 2, Filled: 1, Blank: 1},
		api.Sum{Rows: 2, Filled: 2, Total: api.Wide{5}, Some: true, Min: number("2"), Max: number("3")})
	for item, e := range []api.Errno{5: api.ErrArg, 6: api.OK, 7: api.ErrArg} {
		if _, got := x.Col(root, 1, item); got != e {
			t.Error("Col", item, got)
		}
	}
}

// Value, Col, Lines, Store and Clone change nothing, Steps and Looked neither.
func TestAskingChangesNothing(t *testing.T) {
	x := taleOf(t)
	before := look(x.Incr)
	if !alike(before, look(x.Incr)) || !alike(before, look(x.Clone())) || !alike(before, look(x.Incr)) || before.steps == 0 || before.looked == 0 {
		t.Error("something has changed")
	}
}

// Steps is the sum of all changes, refused ones among them.
func TestSteps(t *testing.T) {
	x := keptFrom(t, storeOf(t))
	many := 0
	for _, e := range []api.Edit{
		{Kind: api.EdSet, Row: row(cars, 4), Value: valueOf("9.0")},
		{Kind: api.EdSet, Row: row(cars, 4), Value: valueOf("9.0")},
		{Kind: api.EdClear, Item: 1},
		{Kind: api.EdClear, Item: 0},
		{Kind: api.EdMove, Row: row(cars, 4)},
		{Kind: api.EdMove, Row: row(cars, 44)},
		{Kind: api.EdDelete, Row: row(jobs, 1)},
		{Kind: api.EdDelete, Row: row(jobs, 1)},
		{Kind: api.EdInsert, Section: cars, Place: 2},
		{Kind: api.EdInsert, Section: 0, Place: 2},
		{},
	} {
		many += len(x.Do(e).Reckoned)
		if x.Steps() != int64(many) {
			t.Fatal("Steps", x.Steps(), many)
		}
	}
	if many < 15 {
		t.Error("only", many)
	}
}

// A clone is the same, and both go their own ways.
func TestClone(t *testing.T) {
	x := taleOf(t)
	before := look(x.Incr)
	y := kept{x.Clone(), t, x.l}
	if !alike(before, look(y.Incr)) {
		t.Fatal("a clone is not the same")
	}
	work := func(x kept) {
		x.t.Helper()
		x.set("/jobs:1/days:5.h", "7.5")
		x.insert("/", "cars", 1)
		x.delete("/jobs:1/days:6/parts:8")
		x.move("/jobs:2", 0)
		x.clear("/.fee")
		x.set("/cars:3.h", "2.0")
	}
	work(y)
	if !alike(before, look(x.Incr)) {
		t.Error("a change of a clone is seen")
	}
	z := kept{x.Clone(), t, x.l}
	behind := look(y.Incr)
	work(x)
	if !alike(behind, look(x.Incr)) {
		t.Error("the same changes come to something else")
	}
	if !alike(behind, look(y.Incr)) || !alike(before, look(z.Incr)) {
		t.Error("a change is seen by a clone")
	}
	x.delete("/jobs:1")
	if !alike(behind, look(y.Incr)) || !alike(before, look(z.Incr)) {
		t.Error("a delete is seen by a clone")
	}
}

// R3: what was told is nobody else's.
func TestNothingIsShared(t *testing.T) {
	x := taleOf(t)
	before := look(x.Incr)
	lines := x.Lines()
	again := maps.Clone(lines)
	for c := range again {
		lines[c] = valueOf("!9")
	}
	clear(lines)
	s := x.Store()
	for n, e := range []api.Edit{{Kind: api.EdSet, Row: row(cars, 4), Value: valueOf("9.0")}, {Kind: api.EdDelete, Row: row(jobs, 1)}, {Kind: api.EdMove, Row: row(cars, 4)}, {Kind: api.EdInsert, Section: cars}, {Kind: api.EdClear, Item: 1}} {
		if got := change(s, e); got.Err != api.OK {
			t.Fatal(n, got)
		}
	}
	if !alike(before, look(x.Incr)) || !maps.Equal(again, x.Lines()) {
		t.Error("what was told is shared")
	}
	told, behind := x.Lines(), x.Store()
	rows := slices.Collect(behind.All())
	first := x.set("/.fee", "0.5000")
	kept := slices.Clone(first.Reckoned)
	keptChanged := slices.Clone(first.Changed)
	second := x.insert("/", "jobs", 0)
	x.delete("/jobs:1")
	if !maps.Equal(told, again) || !slices.Equal(rows, slices.Collect(behind.All())) || !store.Same(before.plain, behind.Plain()) {
		t.Error("what goes on is seen in what was told")
	}
	if !slices.Equal(kept, first.Reckoned) || !slices.Equal(keptChanged, first.Changed) || len(kept) == 0 || len(keptChanged) == 0 {
		t.Error("Reckoned and Changed are seen to change")
	}
	seen := look(x.Incr)
	for _, l := range [][]api.Cell{first.Reckoned, first.Changed, second.Reckoned} {
		l = l[:cap(l)]
		for n := range l {
			l[n] = cell(row(99, 9, 9, 9), -1)
		}
	}
	if !alike(seen, look(x.Incr)) {
		t.Error("a list that was told is shared")
	}
	x.hold(x.Store(), modelOf(x.Store()))
}

// Two lists of one answer share nothing.
func TestListsAreTwo(t *testing.T) {
	x := taleOf(t)
	got := x.set("/.fee", "0.5000")
	changed := slices.Clone(got.Changed)
	reckoned := got.Reckoned[:cap(got.Reckoned)]
	for n := range reckoned {
		reckoned[n] = api.Cell{Item: -1}
	}
	if !slices.Equal(changed, got.Changed) || len(changed) == 0 {
		t.Error("Reckoned and Changed share memory")
	}
}

// A schema and a return that no call made: New's and From's errors.
func TestNotMadeBefore(t *testing.T) {
	if m, e := incr.New(nil); m != nil || e != api.ErrMade {
		t.Error("New", m, e)
	}
	for _, s := range []*store.Store{nil, {}, new(store.Store)} {
		if _, e := model.New(s); e != api.ErrMade {
			t.Error("model.New", e)
		}
		if m, e := incr.From(s); m != nil || e != api.ErrMade {
			t.Error("From", m, e)
		}
	}
}
