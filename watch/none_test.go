package watch_test

import (
	"math"
	"slices"
	"strconv"
	"strings"
	"testing"
	"time"

	"excise/api"
	"excise/incr"
	"excise/schema"
	"excise/store"
	"excise/watch"
)

// New and From of nothing, and of what no call made.
func TestMadeOfNothing(t *testing.T) {
	none, _ := store.New(nil)
	for _, s := range []*schema.Schema{nil, {}, new(schema.Schema)} {
		if w, e := watch.New(s); w != nil || e != api.ErrMade {
			t.Error("New", w, e)
		}
	}
	for _, x := range []*store.Store{nil, {}, new(store.Store), none} {
		if w, e := watch.From(x); w != nil || e != api.ErrMade {
			t.Error("From", w, e)
		}
	}
}

// A watch that no call made.
func TestNotMade(t *testing.T) {
	made := taleOf(t)
	none, _ := watch.New(nil)
	for _, w := range []*watch.Watch{nil, {}, new(watch.Watch), none, none.Clone()} {
		for kind := -1; kind <= 7; kind++ {
			for _, r := range []api.Row{root, row(jobs, 1), row(99), row(-1)} {
				got := w.Do(api.Edit{Kind: kind, Row: r, Section: cars, Item: 1, Value: valueOf("0.25")})
				if !sameEdited(got, api.Edited{Err: api.ErrMade}) {
					t.Error("Do", kind, got)
				}
			}
		}
		for r := range made.Store().All() {
			for _, item := range append([]int{0, 1}, noPlaces...) {
				if v, e := w.Value(cell(r, item)); v != (api.Value{}) || e != api.ErrMade {
					t.Error("Value", v, e)
				}
				if s, e := w.Col(r, cars, item); s != (api.Sum{}) || e != api.ErrMade {
					t.Error("Col", s, e)
				}
				for _, names := range nameLists {
					if f, ok := w.Fault(cell(r, item), names...); ok || !sameFault(f, api.Fault{}) {
						t.Error("Fault", f, ok)
					}
				}
			}
		}
		for _, names := range nameLists {
			if l := w.Faults(names...); len(l) != 0 || w.Many(names...) != 0 {
				t.Error("Faults, Many", l)
			}
		}
		if w.Store() != nil || w.Clone() != nil || w.Asked() != 0 || w.Steps() != 0 || w.Looked() != 0 {
			t.Error("Store, Clone, Asked, Steps, Looked")
		}
	}
}

// refused holds that a change is refused by an error, and that nothing has changed: P22.6.
func (x watched) refused(e api.Edit, want api.Errno) {
	x.t.Helper()
	before := look(x.Watch)
	if got := x.do(e); !sameEdited(got, api.Edited{Err: want}) {
		x.t.Errorf("Do of %v: %v, not %d", e, got, want)
	}
	if !alike(before, look(x.Watch)) {
		x.t.Errorf("Do of %v has changed something", e)
	}
}

// Kinds that there are not, whatever else is asked.
func TestNoKind(t *testing.T) {
	x := taleOf(t)
	c := x.cell("/jobs:2/days:5.h")
	for _, kind := range []int{0, -1, 6, 7, 99, math.MinInt, math.MaxInt} {
		x.refused(api.Edit{Kind: kind}, api.ErrArg)
		x.refused(api.Edit{Kind: kind, Row: c.Row, Item: c.Item, Value: valueOf("9.0")}, api.ErrArg)
		x.refused(api.Edit{Kind: kind, Section: cars, Place: 1}, api.ErrArg)
		x.refused(api.Edit{Kind: kind, Row: row(cars, 3), Place: 1}, api.ErrArg)
		x.refused(api.Edit{Kind: kind, Row: row(cars, 33), Place: 1}, api.ErrArg)
	}
}

func TestRowsRefused(t *testing.T) {
	x := taleOf(t)
	x.delete("/jobs:2/days:6")
	for _, r := range append(away(), row(days, 2, 6), row(parts, 2, 6, 7)) {
		for _, n := range []int{0, 1, -1, 99} {
			x.refused(api.Edit{Kind: api.EdInsert, Row: r, Section: days, Place: n}, api.ErrNone)
			x.refused(api.Edit{Kind: api.EdInsert, Row: r, Section: n}, api.ErrNone)
			x.refused(api.Edit{Kind: api.EdMove, Row: r, Place: n}, api.ErrNone)
			x.refused(api.Edit{Kind: api.EdSet, Row: r, Item: n, Value: valueOf("1.0")}, api.ErrNone)
			x.refused(api.Edit{Kind: api.EdClear, Row: r, Item: n}, api.ErrNone)
		}
		x.refused(api.Edit{Kind: api.EdDelete, Row: r}, api.ErrNone)
	}
	x.refused(api.Edit{Kind: api.EdDelete}, api.ErrArg)
	x.refused(api.Edit{Kind: api.EdMove}, api.ErrArg)
}

// Sections, places and items that there are not, values that no field takes, and rows for which there is no room.
func TestArgumentsRefused(t *testing.T) {
	x := taleOf(t)
	for _, section := range append([]int{0, days, parts, carJobs, 7}, noPlaces...) {
		x.refused(api.Edit{Kind: api.EdInsert, Section: section}, api.ErrArg)
	}
	for _, place := range append([]int{3}, noPlaces...) {
		x.refused(api.Edit{Kind: api.EdInsert, Section: jobs, Place: place}, api.ErrArg)
	}
	for _, to := range append([]int{2}, noPlaces...) {
		x.refused(api.Edit{Kind: api.EdMove, Row: row(days, 2, 6), Place: to}, api.ErrArg)
	}
	for _, item := range append([]int{0, 2, 3, 6, 7, 8}, noPlaces...) {
		x.refused(api.Edit{Kind: api.EdSet, Item: item, Value: valueOf("1.00")}, api.ErrArg)
		x.refused(api.Edit{Kind: api.EdClear, Item: item}, api.ErrArg)
	}
	for _, v := range []api.Value{valueOf("blank"), valueOf("!1"), valueOf("1"), valueOf("1.000"), valueOf("true"), valueOf("'x'"), {Kind: 9}, {Kind: -1}, {Kind: api.VNum, Num: api.Dec{Neg: true, Scale: 2}}} {
		x.refused(api.Edit{Kind: api.EdSet, Item: 1, Value: v}, api.ErrKind)
	}
	x.add("/", "jobs", "jobs", "jobs")
	x.refused(api.Edit{Kind: api.EdInsert, Section: jobs}, api.ErrFull)
	x.refused(api.Edit{Kind: api.EdInsert, Section: jobs, Place: -1}, api.ErrFull)
	x.delete("/jobs:1")
	x.insert("/", "jobs", 4)
}

// Fields that a Kind does not name count for nothing.
func TestOtherFields(t *testing.T) {
	x := taleOf(t)
	same := func(plain, filled api.Edit) {
		t.Helper()
		y, z := x.clone(), x.clone()
		want := y.ok(plain)
		if got := z.ok(filled); !sameEdited(got, want) || !alike(look(y.Watch), look(z.Watch)) {
			t.Errorf("Do of %v: %v, not %v", filled, got, want)
		}
	}
	junk := api.Value{Kind: 99, Err: -1, Text: "x", Flag: true, Num: api.Dec{Neg: true, Scale: 99}}
	same(api.Edit{Kind: api.EdInsert, Row: row(jobs, 1), Section: days, Place: 1}, api.Edit{Kind: api.EdInsert, Row: row(jobs, 1), Section: days, Place: 1, Item: 1, Value: junk})
	same(api.Edit{Kind: api.EdDelete, Row: row(days, 2, 6)}, api.Edit{Kind: api.EdDelete, Row: row(days, 2, 6), Section: -1, Place: -1, Item: math.MaxInt, Value: junk})
	same(api.Edit{Kind: api.EdMove, Row: row(days, 2, 6)}, api.Edit{Kind: api.EdMove, Row: row(days, 2, 6), Section: 99, Item: 0, Value: junk})
	same(api.Edit{Kind: api.EdSet, Item: 1, Value: valueOf("1.00")}, api.Edit{Kind: api.EdSet, Section: jobs, Place: 7, Item: 1, Value: valueOf("1.00")})
	same(api.Edit{Kind: api.EdClear, Row: row(days, 2, 6)}, api.Edit{Kind: api.EdClear, Row: row(days, 2, 6), Section: -9, Place: 9, Value: junk})
}

// Behind refused changes the next ones are as if these had not been.
func TestRefusedIsNothing(t *testing.T) {
	x, y := taleOf(t), taleOf(t)
	for _, e := range []api.Edit{{Kind: api.EdInsert, Section: jobs, Place: 9}, {Kind: api.EdDelete}, {Kind: api.EdMove, Row: row(jobs, 1), Place: 2}, {Kind: api.EdSet, Item: 1, Value: valueOf("1")}, {Kind: api.EdClear, Item: 0}, {Kind: 9}} {
		if got := y.do(e); got.Err == api.OK {
			t.Error("Do", got)
		}
	}
	for _, z := range []watched{x, y} {
		z.insert("/", "jobs", 2)
		z.move("/jobs:15", 0)
		z.set("/.fee", "2.00")
	}
	if !alike(look(x.Watch), look(y.Watch)) {
		t.Error("a refused change is seen")
	}
}

// spoil overwrites a list of faults, and what may lie behind their places.
func spoil(l []api.Fault) {
	for n := range l {
		at := l[n].At[:cap(l[n].At)]
		for k := range at {
			at[k] = -99
		}
		l[n] = api.Fault{Kind: -1}
	}
}

// R3: what is told is nobody's else, and names are neither written to nor kept.
func TestNothingIsShared(t *testing.T) {
	x := taleOf(t)
	names := []string{"who", "cars", "who", "nobody"}
	kept := slices.Clone(names)
	got := x.Faults(names...)
	want := cloned(got)
	for n := range got {
		spoil(got[n : n+1])
		if !sameFaults(got[n+1:], want[n+1:]) {
			t.Fatal("two lists of one answer are shared", n)
		}
	}
	for _, f := range want {
		g, ok := x.Fault(f.Cell, names...)
		if !ok || !sameFault(f, g) {
			t.Error("Fault", g, ok)
		}
		spoil([]api.Fault{g})
	}
	done := x.insert("/jobs:1/days:13", "parts", 0)
	for n := range done.Changed {
		done.Changed[n] = cell(root, 1)
	}
	for n := range done.Reckoned {
		done.Reckoned[n] = cell(root, 1)
	}
	x.delete("/jobs:1/days:13/parts:15")
	if !sameFaults(x.Faults(names...), want) || !slices.Equal(names, kept) {
		t.Error("something is shared, or was written to")
	}
	names[0], names[1] = "fee", "jobs"
	if !sameFaults(x.Faults(kept...), want) {
		t.Error("names are kept")
	}
	x.hold()
}

// A schema that its owner overwrites behind New: no call panics, and the faults that were found stay.
func TestSchemaOverwritten(t *testing.T) {
	s := schemaOf(t, tale)
	w, e := watch.New(s)
	if e != api.OK {
		t.Fatal("New", e)
	}
	w.Do(api.Edit{Kind: api.EdInsert, Section: jobs})
	before := w.Faults()
	*s = schema.Schema{}
	if !sameFaults(w.Faults(), before) || w.Many() != len(before) {
		t.Error("Faults", w.Faults())
	}
	c := w.Clone()
	for _, w := range []*watch.Watch{w, c} {
		for kind := range 7 {
			w.Do(api.Edit{Kind: kind, Section: jobs, Item: 1, Row: row(jobs, 1), Value: valueOf("1.00")})
			w.Do(api.Edit{Kind: kind, Section: jobs, Item: 1, Value: valueOf("1.00")})
		}
		for _, f := range w.Faults("who") {
			w.Fault(f.Cell)
		}
	}
	if x, e := watch.From(w.Store()); x != nil || e != api.ErrMade {
		t.Error("From", x, e)
	}
	if x, e := incr.From(w.Store()); x != nil || e != api.ErrMade {
		t.Error("incr.From", x, e)
	}
}

// within holds that something is done soon enough: by far less than it would take to ask all cells with each change, or all names with each fault.
func within(t *testing.T, what string, limit time.Duration, do func()) {
	t.Helper()
	begin := time.Now()
	do()
	if took := time.Since(begin); took > limit {
		t.Errorf("%s took %v", what, took)
	}
}

// THE BOUND: as many rows as there may be, each with as many faults, and very many names.
func TestBound(t *testing.T) {
	var b strings.Builder
	b.WriteString("return r { field a : amount 0 needed ; ")
	for n := range 4 {
		b.WriteString("section s" + strconv.Itoa(n) + " max 1024 { ")
		for i := range api.MaxItems {
			b.WriteString("field q" + strconv.Itoa(i) + " : amount 0 needed ; ")
		}
		b.WriteString("} ")
	}
	s := schemaOf(t, b.String()+"}")
	x, e := store.New(s)
	if e != api.OK {
		t.Fatal(e)
	}
	for x.Len() < api.MaxAll {
		x.Insert(root, 1+x.Len()%4, 0)
	}
	var w *watch.Watch
	within(t, "From", 20*time.Second, func() { w, _ = watch.From(x) })
	names := make([]string, 1<<20)
	for n := range names {
		names[n] = "n" + strconv.Itoa(n)
	}
	names[len(names)-1] = "s2"
	var all, some []api.Fault
	within(t, "Faults", 20*time.Second, func() { all = w.Faults() })
	within(t, "Faults without many names", 20*time.Second, func() { some = w.Faults(names...) })
	within(t, "Many without many names", 20*time.Second, func() {
		if many := w.Many(names...); many != len(some) || w.Many() != len(all) {
			t.Error("Many", many)
		}
	})
	if len(all) != api.MaxAll*api.MaxItems+1 || len(some) != 3*api.MaxAll*api.MaxItems/4+1 {
		t.Error("faults:", len(all), len(some))
	}
	within(t, "Fault", 20*time.Second, func() {
		for n := range 200 {
			if f, ok := w.Fault(all[n*1000].Cell); !ok || !sameFault(f, all[n*1000]) {
				t.Error("Fault", f, ok)
			}
		}
	})
	within(t, "changes of single cells", 20*time.Second, func() {
		for n := range 20000 {
			w.Do(api.Edit{Kind: api.EdSet, Value: valueOf(strconv.Itoa(n % 7))})
			w.Do(api.Edit{Kind: api.EdMove, Row: all[1+n*13].Cell.Row, Place: n % 1024})
		}
	})
	within(t, "rows deleted and put in", 20*time.Second, func() {
		for n := range 500 {
			w.Do(api.Edit{Kind: api.EdDelete, Row: all[1+n*128].Cell.Row})
			w.Do(api.Edit{Kind: api.EdInsert, Section: 1 + n%4})
		}
	})
}
