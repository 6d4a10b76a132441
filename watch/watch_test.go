package watch_test

import (
	"slices"
	"testing"

	"excise/api"
	"excise/rules"
	"excise/store"
)

// The chapter's example.
func TestExample(t *testing.T) {
	x := watchedOf(t, "return r { section k max 9 { field h : amount 2 needed ; } }")
	x.want("")
	first := x.insert("/", "k", 0)
	x.want("needed /k[0].h")
	x.insert("/", "k", 0)
	x.want(`needed /k[0].h
		needed /k[1].h`)
	x.ok(api.Edit{Kind: api.EdSet, Row: first.Row, Value: valueOf("1.50")})
	x.want("needed /k[0].h")
	if x.Asked() != 3 {
		t.Error("Asked", x.Asked())
	}
}

// New: the root's row alone, with its faults; nothing was asked by Do.
func TestNew(t *testing.T) {
	x := watchedOf(t, tale)
	x.want(`error 3 .due
		needed .fee
		false .some
		needed .who
		blank .sane
		error 4 .far`)
	if x.Asked() != 0 || x.Steps() != 0 || x.Looked() != 0 || x.Store().Len() != 0 || x.Store().Next() != 1 {
		t.Error(x.Asked(), x.Steps(), x.Looked(), x.Store().Len(), x.Store().Next())
	}
	for _, text := range []string{"return r { }", "return r { field a : text ; line b : amount 0 up = 1 ; check c = b = 1 ; }", "return r { section k max 1 { section m max 1 { field a : flag needed ; } } }"} {
		watchedOf(t, text).want("")
	}
}

// All kinds of faults, in rows of all depths, by places.
func TestFaults(t *testing.T) {
	x := taleOf(t)
	all := `error 3 .due
		needed .fee
		error 3 .total
		needed .who
		blank .sane
		error 4 .far
		needed /jobs[0].wage
		error 3 /jobs[0].pay
		needed /jobs[0]/days[0].h
		error 3 /jobs[0]/days[0]/parts[0].share
		needed /jobs[0]/days[0]/parts[0].q
		error 3 /jobs[0]/days[0]/parts[0].named
		needed /jobs[1].wage
		error 3 /jobs[1].pay
		needed /jobs[1]/days[0].h
		needed /jobs[1]/days[1].h
		error 3 /jobs[1]/days[1]/parts[0].share
		needed /jobs[1]/days[1]/parts[0].q
		error 3 /jobs[1]/days[1]/parts[0].named
		error 3 /jobs[1]/days[1]/parts[1].share
		needed /jobs[1]/days[1]/parts[1].q
		error 3 /jobs[1]/days[1]/parts[1].named
		needed /cars[0].h
		needed /cars[1].h
		needed /cars[1]/jobs[0].k
		blank /cars[1]/jobs[0].sure
		error 3 /cars[1]/jobs[0].tell
		needed /cars[1]/jobs[1].k
		blank /cars[1]/jobs[1].sure
		error 3 /cars[1]/jobs[1].tell`
	x.want(all)
	y := goodTale(t)
	y.want("")
	y.set("/.on", "false")
	y.want("false .sane")
	y.clear("/.on")
	y.want(`blank .sane
		error 3 /jobs[0]/days[0]/parts[0].share
		error 3 /jobs[1]/days[1]/parts[0].share
		error 3 /jobs[1]/days[1]/parts[1].share`)
	y.set("/.on", "true")
	y.set("/.who", "'you'")
	y.want(`false /jobs[0]/days[0]/parts[0].named
		false /jobs[1]/days[1]/parts[0].named
		false /jobs[1]/days[1]/parts[1].named`)
	y.set("/.who", "''")
	y.set("/jobs:2/days:6/parts:8.q", "''")
	y.want(`false /jobs[0]/days[0]/parts[0].named
		false /jobs[1]/days[1]/parts[0].named`)
}

// A fault of a cell becomes one of another kind, and another error.
func TestFaultTurns(t *testing.T) {
	x := watchedOf(t, `return r { field a : flag ; field n : amount 0 ; field b : amount 0 ; section k max 3 { field g : amount 0 ; }
		line l : amount 0 up = if ( a , n , max ( k . g ) ) ; check c = if ( a , n > 0 , min ( k . g ) > 0 ) ; check d = a ; check e = blank ( b ) ; }`)
	x.want(`error 3 .l
		error 3 .c
		blank .d`)
	x.set("/.b", "1")
	x.want(`error 3 .l
		error 3 .c
		blank .d
		false .e`)
	x.clear("/.b")
	x.set("/.a", "false")
	x.want(`error 4 .l
		error 4 .c
		false .d`)
	x.set("/.a", "true")
	x.want("error 3 .c")
	x.set("/.n", "0")
	x.want("false .c")
	x.set("/.n", "9")
	x.want("")
	x.set("/.n", "-9")
	x.want("false .c")
	x.clear("/.a")
	x.want(`error 3 .l
		error 3 .c
		blank .d`)
}

// Rows that are put in ahead of rows with faults, moved and deleted: ids and places part.
func TestPlaces(t *testing.T) {
	x := goodTale(t)
	x.clear("/jobs:2/days:6/parts:8.q")
	x.clear("/cars:4/jobs:10.k")
	x.want(`needed /jobs[1]/days[1]/parts[1].q
		error 3 /jobs[1]/days[1]/parts[1].named
		needed /cars[1]/jobs[1].k
		blank /cars[1]/jobs[1].sure`)
	x.move("/jobs:2/days:6/parts:8", 0)
	x.move("/cars:4/jobs:10", 0)
	x.want(`needed /jobs[1]/days[1]/parts[0].q
		error 3 /jobs[1]/days[1]/parts[0].named
		needed /cars[1]/jobs[0].k
		blank /cars[1]/jobs[0].sure`)
	x.move("/jobs:2/days:6", 0)
	x.move("/cars:4", 0)
	x.want(`needed /jobs[1]/days[0]/parts[0].q
		error 3 /jobs[1]/days[0]/parts[0].named
		needed /cars[0]/jobs[0].k
		blank /cars[0]/jobs[0].sure`)
	x.move("/jobs:1", 1)
	x.insert("/cars:4", "jobs", 0)
	x.want(`needed /jobs[0]/days[0]/parts[0].q
		error 3 /jobs[0]/days[0]/parts[0].named
		needed /cars[0]/jobs[0].k
		blank /cars[0]/jobs[0].sure
		needed /cars[0]/jobs[1].k
		blank /cars[0]/jobs[1].sure`)
	x.insert("/jobs:2", "days", 0)
	x.delete("/cars:4/jobs:15")
	x.want(`needed /jobs[0]/days[0].h
		needed /jobs[0]/days[1]/parts[0].q
		error 3 /jobs[0]/days[1]/parts[0].named
		needed /cars[0]/jobs[0].k
		blank /cars[0]/jobs[0].sure`)
	x.move("/cars:4/jobs:10", 1)
	x.move("/jobs:2/days:16", 2)
	x.move("/jobs:2", 1)
	x.want(`needed /jobs[1]/days[0]/parts[0].q
		error 3 /jobs[1]/days[0]/parts[0].named
		needed /jobs[1]/days[2].h
		needed /cars[0]/jobs[1].k
		blank /cars[0]/jobs[1].sure`)
	if f, ok := x.Fault(x.cell("/jobs:2/days:16.h")); !ok || !slices.Equal(f.At, []int{jobs, 1, days, 2}) {
		t.Error("Fault", f, ok)
	}
}

// Deleted rows take the faults of all rows within them along, and no others.
func TestDeleted(t *testing.T) {
	x := taleOf(t)
	x.set("/.fee", "0.25")
	x.set("/.who", "'me'")
	x.set("/.on", "true")
	x.delete("/cars:4")
	x.want(`error 3 .due
		error 3 .total
		error 4 .far
		needed /jobs[0].wage
		error 3 /jobs[0].pay
		needed /jobs[0]/days[0].h
		needed /jobs[0]/days[0]/parts[0].q
		error 3 /jobs[0]/days[0]/parts[0].named
		needed /jobs[1].wage
		error 3 /jobs[1].pay
		needed /jobs[1]/days[0].h
		needed /jobs[1]/days[1].h
		needed /jobs[1]/days[1]/parts[0].q
		error 3 /jobs[1]/days[1]/parts[0].named
		needed /jobs[1]/days[1]/parts[1].q
		error 3 /jobs[1]/days[1]/parts[1].named
		needed /cars[0].h`)
	x.delete("/jobs:2/days:6/parts:7")
	x.delete("/jobs:1/days:13")
	x.want(`error 3 .due
		error 3 .total
		error 4 .far
		needed /jobs[0].wage
		error 3 /jobs[0].pay
		needed /jobs[1].wage
		error 3 /jobs[1].pay
		needed /jobs[1]/days[0].h
		needed /jobs[1]/days[1].h
		needed /jobs[1]/days[1]/parts[0].q
		error 3 /jobs[1]/days[1]/parts[0].named
		needed /cars[0].h`)
	x.delete("/jobs:1")
	x.want(`error 3 .due
		error 3 .total
		error 4 .far
		needed /jobs[0].wage
		error 3 /jobs[0].pay
		needed /jobs[0]/days[0].h
		needed /jobs[0]/days[1].h
		needed /jobs[0]/days[1]/parts[0].q
		error 3 /jobs[0]/days[1]/parts[0].named
		needed /cars[0].h`)
	x.delete("/jobs:2")
	x.want(`false .some
		error 4 .far
		needed /cars[0].h`)
	x.insert("/", "jobs", 0)
	x.want(`error 3 .due
		error 3 .total
		error 4 .far
		needed /jobs[0].wage
		error 3 /jobs[0].pay
		needed /cars[0].h`)
}

// A row that comes where another one has gone: its faults are its own.
func TestDeletedAndAgain(t *testing.T) {
	x := goodTale(t)
	x.clear("/cars:4.h")
	x.delete("/cars:4")
	x.want("")
	x.insert("/", "cars", 1)
	x.want("needed /cars[1].h")
	if _, ok := x.Fault(cell(row(cars, 4), 0)); ok {
		t.Error("a fault of a row that is gone")
	}
	if f, ok := x.Fault(cell(row(cars, 15), 0)); !ok || f.Kind != api.FtNeed || !slices.Equal(f.At, []int{cars, 1}) {
		t.Error("Fault", f, ok)
	}
}

// nameLists are names of fields, lines, checks and sections of tale, within the root and not, some twice, empty, of nobody.
var nameLists = [][]string{
	nil, {}, {""}, {"nobody"}, {"who"}, {"fee"}, {"who", "fee"}, {"who", "who"}, {"jobs"}, {"cars"}, {"jobs", "cars", "jobs"}, {"yards"},
	{"days"}, {"parts"}, {"h"}, {"wage"}, {"k"}, {"q"}, {"due"}, {"some"}, {"sane"}, {"far", "on"}, {"r"}, {"who", "jobs", "", "cars", "nobody", "fee", "days", "who"},
}

// Names leave out what is needed in the root's fields and sections of these names, and nothing else.
func TestNames(t *testing.T) {
	x := watchedOf(t, tale)
	x.add("/", "jobs", "cars")
	x.add("/jobs:1", "days")
	x.add("/cars:2", "jobs")
	x.set("/.on", "false")
	rest := `error 3 .due
		error 3 .total
		false .sane
		error 4 .far
		error 3 /jobs[0].pay
		blank /cars[0]/jobs[0].sure
		error 3 /cars[0]/jobs[0].tell`
	x.want(rest, "who", "fee", "jobs", "cars")
	x.want(rest, "cars", "jobs", "", "fee", "who", "who", "nobody", "sane", "due")
	x.want(`error 3 .due
		error 3 .total
		needed .who
		false .sane
		error 4 .far
		error 3 /jobs[0].pay
		needed /cars[0].h
		needed /cars[0]/jobs[0].k
		blank /cars[0]/jobs[0].sure
		error 3 /cars[0]/jobs[0].tell`, "fee", "jobs")
	x.want(`error 3 .due
		needed .fee
		error 3 .total
		false .sane
		error 4 .far
		needed /jobs[0].wage
		error 3 /jobs[0].pay
		needed /jobs[0]/days[0].h
		blank /cars[0]/jobs[0].sure
		error 3 /cars[0]/jobs[0].tell`, "cars", "who")
	if all := x.Many(); all != 13 {
		t.Error("Many", all)
	}
	for _, names := range [][]string{{"days", "h", "wage", "k"}, {"due", "total", "sane", "far", "some"}, {"", "r", "nobody", "WHO", "who "}} {
		x.want(x.text(x.Faults()), names...)
	}
	for _, x := range []watched{x, taleOf(t), goodTale(t)} {
		for _, names := range nameLists {
			x.hold(names...)
		}
	}
}

// Fault, with each cell's value, of cells that are there and of such that are not.
func TestFault(t *testing.T) {
	x := taleOf(t)
	x.delete("/jobs:2/days:5")
	x.move("/jobs:2", 0)
	now, values := x.Store(), linesOf(x.Store())
	rows := append(slices.Collect(now.All()), row(days, 2, 5))
	found := 0
	for _, r := range append(rows, away()...) {
		for _, item := range append([]int{0, 1, 2, 3, 4, 5, 6, 7, 8}, noPlaces...) {
			c := cell(r, item)
			for _, names := range nameLists {
				f, ok := x.Fault(c, names...)
				if want, is := rules.Of(now, c, values[c], names...); ok != is || !sameFault(f, want) {
					t.Errorf("Fault of %v without %q: %v %v, not %v", c, names, f, ok, want)
				} else if ok {
					found++
				}
			}
		}
	}
	if found < 400 {
		t.Error("only", found)
	}
	x.is("/jobs:2/days:6.h", "needed /jobs[0]/days[0].h")
	x.is("/jobs:2/days:6.h", "needed /jobs[0]/days[0].h", "days", "cars")
	x.is("/jobs:2/days:6.h", "", "cars", "jobs")
	x.is("/.who", "", "who")
	x.is("/.sane", "blank .sane", "sane")
	x.is("/.on", "")
	x.is("/.some", "")
}

// is holds Fault of a cell against a text, which is empty if there is none.
func (x watched) is(c, text string, names ...string) {
	x.t.Helper()
	told := ""
	if f, ok := x.Fault(x.cell(c), names...); ok {
		told = rules.Text(x.l, f)
	}
	if told != text {
		x.t.Errorf("Fault of %s without %q: %q, not %q", c, names, told, text)
	}
}

// From: all that a return has, its ids and its next id, too; its faults count for nothing in Asked.
func TestFrom(t *testing.T) {
	y := taleOf(t)
	y.delete("/jobs:2/days:5")
	y.move("/cars:4", 0)
	y.set("/cars:4/jobs:9.k", "false")
	x := watchedFrom(t, y.Store())
	x.hold()
	if !sameFaults(x.Faults(), y.Faults()) || x.Many() != y.Many() || x.Many() < 20 || x.Asked() != 0 || x.Steps() != 0 || x.Looked() != 0 {
		t.Error(x.Many(), y.Many(), x.Asked(), x.Steps(), x.Looked())
	}
	if got := x.insert("/cars:4", "jobs", 0); got.Row != row(carJobs, 4, 15) || x.Asked() != 3 {
		t.Error("Do", got, x.Asked())
	}
	x.is("/cars:4/jobs:9.sure", "false /cars[0]/jobs[1].sure")
	x.move("/cars:4/jobs:15", 2)
	x.is("/cars:4/jobs:9.sure", "false /cars[0]/jobs[0].sure")
}

// What is done behind From to the return that was handed in changes nothing here, nor what is done to one that Store tells; nor the other way round.
func TestStoresStay(t *testing.T) {
	handed := taleOf(t).Store()
	x := watchedFrom(t, handed)
	told := x.Store()
	before := look(x.Watch)
	for _, s := range []*store.Store{handed, told} {
		change(t, s, api.Edit{Kind: api.EdSet, Item: 1, Value: valueOf("0.25")}, api.Edit{Kind: api.EdMove, Row: row(cars, 3), Place: 1}, api.Edit{Kind: api.EdDelete, Row: row(jobs, 2)}, api.Edit{Kind: api.EdInsert, Section: yards})
	}
	if !alike(look(x.Watch), before) {
		t.Error("a change of another return is seen")
	}
	x.hold()
	plain := handed.Plain()
	x.set("/.who", "'you'")
	x.delete("/jobs:1")
	x.insert("/", "cars", 0)
	if !store.Same(plain, handed.Plain()) || !store.Same(plain, told.Plain()) {
		t.Error("a change is seen by another return")
	}
}

// change makes changes of a return by store's own calls.
func change(t *testing.T, x *store.Store, edits ...api.Edit) {
	t.Helper()
	for _, e := range edits {
		var wrong api.Errno
		switch c := cell(e.Row, e.Item); e.Kind {
		case api.EdInsert:
			_, wrong = x.Insert(e.Row, e.Section, e.Place)
		case api.EdDelete:
			wrong = x.Delete(e.Row)
		case api.EdMove:
			_, wrong = x.Move(e.Row, e.Place)
		case api.EdSet:
			wrong = x.Set(c, e.Value)
		}
		if wrong != api.OK {
			t.Fatal(e, wrong)
		}
	}
}

// Value and Col of rows, items and sections that are not there, next to those that are: incr's answers.
func TestErrorsOfAsking(t *testing.T) {
	x := taleOf(t)
	x.delete("/jobs:2/days:6")
	found := map[api.Errno]int{}
	rows := append(slices.Collect(x.Store().All()), row(days, 2, 6), row(parts, 2, 6, 7))
	for _, r := range append(rows, away()...) {
		for _, item := range append([]int{0, 1, 2, 3, 4, 5, 6, 7, 8}, noPlaces...) {
			v, wrong := x.with.Value(cell(r, item))
			if got, e := x.Value(cell(r, item)); got != v || e != wrong {
				t.Errorf("Value of %v %d: %v %d, not %v %d", r, item, got, e, v, wrong)
			}
			found[wrong]++
			for _, section := range append([]int{0, 1, 2, 3, 4, 5, 6, 7}, noPlaces...) {
				sum, wrong := x.with.Col(r, section, item)
				if got, e := x.Col(r, section, item); got != sum || e != wrong {
					t.Errorf("Col of %v %d %d: %v %d, not %v %d", r, section, item, got, e, sum, wrong)
				}
				found[wrong]++
			}
		}
	}
	if found[api.OK] < 50 || found[api.ErrNone] < 500 || found[api.ErrArg] < 500 || len(found) != 3 {
		t.Error(found)
	}
}

// Clone: the same, Asked too; then each goes its own way.
func TestClone(t *testing.T) {
	x := taleOf(t)
	y := x.clone()
	before := look(x.Watch)
	if y.Watch == x.Watch || !alike(look(y.Watch), before) || y.Asked() == 0 {
		t.Fatal("Clone is another one")
	}
	y.set("/.fee", "0.25")
	y.delete("/jobs:2")
	y.move("/cars:4", 0)
	y.insert("/jobs:1", "days", 0)
	if !alike(look(x.Watch), before) || y.Asked() == x.Asked() {
		t.Fatal("a change of a clone is seen")
	}
	x.hold()
	behind := look(y.Watch)
	x.set("/.who", "'me'")
	x.set("/jobs:2/days:6/parts:8.q", "'me'")
	x.delete("/cars:4")
	x.insert("/jobs:1", "days", 1)
	x.insert("/jobs:1", "days", 1)
	if !alike(look(y.Watch), behind) || y.Asked() == x.Asked() {
		t.Fatal("a clone sees a change")
	}
	y.hold()
	z := x.clone().clone()
	z.want(x.text(x.Faults()))
	if z.Asked() != x.Asked() || z.Steps() != x.Steps() || z.Looked() != x.Looked() {
		t.Error(z.Asked(), x.Asked())
	}
}
