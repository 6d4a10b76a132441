package incr_test

import (
	"slices"
	"strings"
	"testing"

	"excise/api"
)

// The chapter's own example.
func TestExample(t *testing.T) {
	x := keptOf(t, "return r { field a : amount 2 ; line t : amount 2 half_up = a + 1 ; line u : amount 0 half_up = round ( t , 0 , down ) ; check c = u > 0 ; }")
	x.want(x.set("/.a", "1.00"), "/.t /.u /.c", "/.t /.u /.c")
	x.is("/.t", "2.00", "/.u", "2", "/.c", "true")
	x.want(x.set("/.a", "1.20"), "/.t /.u", "/.t")
	x.is("/.t", "2.20", "/.u", "2", "/.c", "true")
}

// What tale's return comes to at first.
func TestTale(t *testing.T) {
	taleOf(t).is("/.total", "42.00", "/.due", "5.25", "/.some", "true", "/.said", "'me'", "/.far", "!3",
		"/jobs:1.short", "true", "/jobs:1.pay", "40.00", "/jobs:1.hours", "4.0", "/jobs:1.least", "1", "/jobs:2.pay", "0.00", "/jobs:2.least", "!4",
		"/jobs:1/days:5.most", "!4", "/jobs:1/days:5.own", "3.125", "/jobs:1/days:5.many", "true", "/jobs:1/days:6.most", "!3", "/jobs:1/days:6.many", "false",
		"/jobs:1/days:6/parts:7.share", "6.81", "/jobs:1/days:6/parts:8.share", "!3", "/jobs:1/days:6/parts:9.share", "17.81",
		"/jobs:1/days:6/parts:7.named", "true", "/jobs:1/days:6/parts:8.named", "!3", "/jobs:1/days:6/parts:9.named", "false", "/cars:3.twice", "!3", "/cars:4.twice", "6.0")
}

const named = " /jobs:1/days:6/parts:7.named /jobs:1/days:6/parts:8.named /jobs:1/days:6/parts:9.named"

// An insert: the row's own lines and checks, which are always among Changed, what goes over its section around it, and what reads these. far is an error ahead of it and behind it.
func TestInsert(t *testing.T) {
	x := taleOf(t)
	got := x.insert("/", "cars", 1)
	x.want(got, "/cars:10.twice /.far /.total /.due"+named+" /.some", "/cars:10.twice /.total /.due")
	if got.Row != row(cars, 10) || got.Place != 0 {
		t.Error("Row, Place", got.Row, got.Place)
	}
	x.is("/cars:10.twice", "!3", "/.far", "!3", "/.total", "43.00", "/.due", "5.38")
	got = x.insert("/", "jobs", 0)
	x.want(got, "/jobs:11.short /jobs:11.hours /jobs:11.pay /jobs:11.least /.total /.due"+named+" /.some",
		"/jobs:11.short /jobs:11.hours /jobs:11.pay /jobs:11.least /.total /.due /jobs:1/days:6/parts:7.named /jobs:1/days:6/parts:9.named /.some")
}

// Inserts of rows within rows.
func TestInsertWithin(t *testing.T) {
	x := taleOf(t)
	got := x.insert("/jobs:2", "days", 0)
	x.want(got, "/jobs:2/days:10.many /jobs:2.short /jobs:2.hours /jobs:2/days:10.own /jobs:2.least /jobs:2/days:10.most",
		"/jobs:2/days:10.many /jobs:2/days:10.own /jobs:2.least /jobs:2/days:10.most")
	if got.Row != row(days, 2, 10) {
		t.Error("Row", got.Row)
	}
	x.is("/jobs:2/days:10.own", "!3", "/jobs:2/days:10.most", "!4", "/jobs:2.hours", "0.0", "/jobs:2.least", "!3")
	got = x.insert("/jobs:2/days:10", "parts", 0)
	x.want(got, "/jobs:2/days:10.many /jobs:2/days:10/parts:11.share /jobs:2/days:10.most /jobs:2/days:10/parts:11.named",
		"/jobs:2/days:10/parts:11.share /jobs:2/days:10.most /jobs:2/days:10/parts:11.named")
	if got.Row != row(parts, 2, 10, 11) {
		t.Error("Row", got.Row)
	}
	x.want(x.insert("/jobs:1/days:5", "parts", 0), "/jobs:1/days:5.many /jobs:1/days:5/parts:12.share /jobs:1/days:5.most /jobs:1/days:5/parts:12.named",
		"/jobs:1/days:5/parts:12.share /jobs:1/days:5.most /jobs:1/days:5/parts:12.named")
	x.is("/jobs:1/days:5.most", "!3")
}

// A delete takes all that is within the row with it; just what goes over its section around it is reckoned, and what reads that.
func TestDelete(t *testing.T) {
	x := taleOf(t)
	x.want(x.delete("/jobs:1/days:6/parts:8"), "/jobs:1/days:6.many /jobs:1/days:6.most", "/jobs:1/days:6.many /jobs:1/days:6.most")
	x.is("/jobs:1/days:6.most", "17", "/jobs:1/days:6.many", "true")
	x.want(x.delete("/jobs:1/days:6"), "/jobs:1.short /jobs:1.hours /jobs:1.pay /jobs:1.least /.total /.due /.some", "/jobs:1.hours /jobs:1.pay /jobs:1.least /.total /.due")
	x.is("/jobs:1.hours", "2.5", "/jobs:1.pay", "25.00", "/jobs:1.least", "3", "/.total", "27.00", "/.due", "3.38")
	x.want(x.delete("/jobs:1"), "/.total /.due /.some", "/.total /.due")
	x.is("/.total", "2.00")
	for _, c := range []api.Cell{cell(row(jobs, 1), 0), cell(row(days, 1, 5), 1), cell(row(days, 1, 6), 2), cell(row(parts, 1, 6, 7), 0)} {
		if v, e := x.Value(c); v != (api.Value{}) || e != api.ErrNone {
			t.Error("Value of", c, v, e)
		}
	}
	x.want(x.delete("/jobs:2"), "/.total /.some", "/.some")
	x.want(x.delete("/cars:3"), "/.far /.total /.due /.some", "/.far /.total /.due")
	x.is("/.far", "7", "/.total", "1.00")
	x.want(x.delete("/cars:4"), "/.far /.total /.due /.some", "/.far /.total /.due")
	x.is("/.far", "!4", "/.total", "0.00", "/.due", "0.00")
}

// A delete and what it took with it: a row put in behind it knows nothing of that.
func TestDeleteAll(t *testing.T) {
	x := taleOf(t)
	x.delete("/jobs:1")
	x.insert("/", "jobs", 0)
	x.is("/jobs:10.hours", "0.0", "/jobs:10.pay", "!3", "/jobs:10.least", "!4", "/.total", "!3")
	x.insert("/jobs:10", "days", 0)
	x.set("/jobs:10/days:11.h", "1.0")
	x.set("/jobs:10.wage", "2.00")
	x.is("/jobs:10.hours", "1.0", "/jobs:10.pay", "2.00", "/jobs:10.least", "0", "/.total", "4.00")
}

// A move: what goes over its section is reckoned, also if the row stays where it is; none of it changes.
func TestMove(t *testing.T) {
	x := taleOf(t)
	for _, to := range []int{1, 1, 0, 0} {
		was, _ := x.Store().Place(row(jobs, 1))
		got := x.move("/jobs:1", to)
		x.want(got, "/.total /.some", "")
		if got.Place != was || got.Row != root {
			t.Error("Place, Row", got.Place, was, got.Row)
		}
	}
	x.want(x.move("/jobs:1/days:5", 1), "/jobs:1.short /jobs:1.hours /jobs:1.least", "")
	x.want(x.move("/jobs:1/days:6/parts:9", 0), "/jobs:1/days:6.many /jobs:1/days:6.most", "")
	x.want(x.move("/cars:3", 1), "/.far /.total", "")
}

// What is set behind a move and an insert ahead goes to the row, not to its place.
func TestPlaces(t *testing.T) {
	x := taleOf(t)
	x.move("/cars:4", 0)
	x.insert("/", "cars", 0)
	x.set("/cars:3.h", "4.0")
	x.set("/cars:10.h", "1.5")
	x.is("/.far", "11")
	x.clear("/cars:4.h")
	x.is("/.far", "!3")
	x.delete("/cars:4")
	x.is("/.far", "10", "/cars:3.twice", "8.0", "/cars:10.twice", "3.0")
}

// A set goes as far as something changes.
func TestSet(t *testing.T) {
	x := taleOf(t)
	x.want(x.set("/jobs:1/days:5.h", "2.0"),
		"/jobs:1.short /jobs:1.hours /jobs:1/days:5.own /jobs:1.pay /jobs:1.least /.total /.due"+named+" /.some",
		"/jobs:1.hours /jobs:1/days:5.own /jobs:1.pay /.total /.due /jobs:1/days:6/parts:7.named")
	x.want(x.set("/jobs:1/days:6/parts:8.p", "7"), "/jobs:1/days:6/parts:8.share /jobs:1/days:6.most /jobs:1/days:6/parts:8.named", "/jobs:1/days:6/parts:8.share /jobs:1/days:6.most /jobs:1/days:6/parts:8.named")
	x.want(x.set("/jobs:1/days:6/parts:8.p", "8"), "/jobs:1/days:6/parts:8.share /jobs:1/days:6.most /jobs:1/days:6/parts:8.named", "/jobs:1/days:6/parts:8.share")
	x.want(x.set("/.who", "'you'"), "/.said"+named, "/.said")
	x.want(x.clear("/.who"), "/.said"+named, "/.said"+named)
	all := "/.said /jobs:1/days:5.own /jobs:1/days:6.own /jobs:1.least /jobs:1/days:6/parts:7.share /jobs:1/days:6/parts:8.share /jobs:1/days:6/parts:9.share /jobs:1/days:6.most"
	x.want(x.set("/.f", "false"), all+named, all)
	x.want(x.set("/jobs:2.wage", "9.00"), "/jobs:2.pay", "")
}

// A value that a cell has already is none that changes, and a blank of a blank neither: nothing is reckoned.
func TestSetTheSame(t *testing.T) {
	x := taleOf(t)
	for range 2 {
		x.want(x.set("/.fee", "0.1250"), "", "")
		x.want(x.set("/.who", "'me'"), "", "")
		x.want(x.set("/.f", "true"), "", "")
		x.want(x.set("/jobs:1/days:5.h", "2.5"), "", "")
		x.want(x.clear("/cars:3.h"), "", "")
		x.want(x.clear("/jobs:1/days:6/parts:8.p"), "", "")
	}
	x.want(x.set("/cars:3.h", "3.0"), "/cars:3.twice /.far", "/cars:3.twice /.far")
	x.want(x.set("/cars:3.h", "3.0"), "", "")
	x.want(x.clear("/cars:3.h"), "/cars:3.twice /.far", "/cars:3.twice /.far")
	x.want(x.clear("/cars:3.h"), "", "")
	if x.Steps() != taleOf(t).Steps()+4 {
		t.Error("Steps", x.Steps())
	}
}

// The same number with another scale is refused.
func TestSetOtherScale(t *testing.T) {
	x := taleOf(t)
	before := look(x.Incr)
	c := x.cell("/jobs:1/days:5.h")
	for _, v := range []string{"2.50", "2", "2.500"} {
		if got := x.do(api.Edit{Kind: api.EdSet, Row: c.Row, Item: c.Item, Value: valueOf(v)}); got.Err != api.ErrKind {
			t.Error("Do", v, got)
		}
	}
	if !alike(before, look(x.Incr)) {
		t.Error("something has changed")
	}
}

// Values that become errors, with all that reads them, and come back.
func TestErrorsComeBack(t *testing.T) {
	x := taleOf(t)
	x.clear("/jobs:1.wage")
	x.is("/jobs:1.pay", "!3", "/.total", "!3", "/.due", "!3", "/.some", "!3", "/jobs:1/days:5.own", "!3", "/jobs:1.least", "!3", "/jobs:1/days:6/parts:7.named", "!3")
	x.want(x.set("/jobs:2.wage", "1.00"), "/jobs:2.pay", "")
	x.want(x.insert("/", "cars", 0), "/cars:10.twice /.far /.total", "/cars:10.twice")
	x.delete("/cars:10")
	x.set("/jobs:2.wage", "8.00")
	x.set("/jobs:1.wage", "10.00")
	x.is("/jobs:1.pay", "40.00", "/.total", "42.00", "/.due", "5.25", "/.some", "true", "/jobs:1/days:5.own", "3.125", "/jobs:1.least", "1", "/jobs:1/days:6/parts:7.named", "true")
}

// A section whose rows nothing reads: nothing is reckoned around it.
func TestNobodyReadsRows(t *testing.T) {
	x := taleOf(t)
	steps, looked := x.Steps(), x.Looked()
	for _, place := range []int{0, 1, 0} {
		x.want(x.insert("/", "yards", place), "", "")
	}
	x.want(x.move("/yards:10", 2), "", "")
	x.want(x.set("/yards:11.g", "5"), "", "")
	x.want(x.delete("/yards:10"), "", "")
	if x.Steps() != steps || x.Looked() <= looked {
		t.Error("Steps, Looked", x.Steps()-steps, x.Looked()-looked)
	}
}

// Each aggregate alone, over two columns of a section and of one within that: a set in one column reckons what reads that one alone, inserts and deletes what goes over the section.
func TestAggregates(t *testing.T) {
	x := keptOf(t, `return r {
		line all : amount 0 up = sum ( k . a ) ; line many : amount 0 up = count ( k . a ) ; line least : amount 0 up = min ( k . b ) ;
		line most : amount 0 up = max ( k . b ) ; line how : amount 0 up = rows ( k ) ; line inner : amount 0 up = sum ( k . deep ) ;
		section k max 9 { field a : amount 0 ; field b : amount 0 ; field w : text ;
			line deep : amount 0 up = sum ( m . c ) ; line words : amount 0 up = count ( m . w2 ) ; line how2 : amount 0 up = rows ( m ) ; check low = min ( m . c ) < max ( m . c ) ;
			section m max 9 { field c : amount 0 ; field w2 : text ; } } }`)
	x.want(x.insert("/", "k", 0), "/.how /k:1.how2 /.all /.many /.least /.most /k:1.deep /k:1.words /k:1.low /.inner", "/.how /k:1.how2 /k:1.deep /k:1.words /k:1.low")
	x.is("/.all", "0", "/.many", "0", "/.least", "!4", "/.most", "!4", "/.how", "1", "/.inner", "0")
	x.insert("/", "k", 1)
	x.want(x.set("/k:1.a", "5"), "/.all /.many", "/.all /.many")
	x.want(x.set("/k:1.b", "7"), "/.least /.most", "/.least /.most")
	x.want(x.set("/k:2.a", "0"), "/.all /.many", "/.many")
	x.want(x.set("/k:2.b", "8"), "/.least /.most", "/.most")
	x.want(x.set("/k:1.w", "'x'"), "", "")
	x.is("/.all", "5", "/.many", "2", "/.least", "7", "/.most", "8", "/.how", "2")
	x.want(x.insert("/k:1", "m", 0), "/k:1.how2 /k:1.deep /k:1.words /k:1.low", "/k:1.how2")
	x.want(x.insert("/k:1", "m", 0), "/k:1.how2 /k:1.deep /k:1.words /k:1.low", "/k:1.how2")
	x.want(x.set("/k:1/m:3.c", "4"), "/k:1.deep /k:1.low /.inner", "/k:1.deep /k:1.low /.inner")
	x.want(x.set("/k:1/m:4.c", "3"), "/k:1.deep /k:1.low /.inner", "/k:1.deep /k:1.low /.inner")
	x.want(x.set("/k:1/m:4.w2", "'x'"), "/k:1.words", "/k:1.words")
	x.want(x.set("/k:1/m:4.w2", "'y'"), "/k:1.words", "")
	x.want(x.move("/k:1/m:4", 1), "/k:1.how2 /k:1.deep /k:1.words /k:1.low", "")
	x.want(x.delete("/k:1/m:3"), "/k:1.how2 /k:1.deep /k:1.words /k:1.low /.inner", "/k:1.how2 /k:1.deep /k:1.low /.inner")
	x.is("/k:1.how2", "1", "/k:1.deep", "3", "/k:1.words", "1", "/k:1.low", "false", "/.inner", "3")
	x.want(x.move("/k:1", 1), "/.how /.all /.many /.least /.most /.inner", "")
	x.want(x.delete("/k:1"), "/.how /.all /.many /.least /.most /.inner", "/.how /.all /.many /.least /.inner")
	x.is("/.all", "0", "/.many", "1", "/.least", "8", "/.most", "8", "/.how", "1", "/.inner", "0")
}

// The order of Reckoned: by ranks, in one of these by rows as they stand now, in one row by items.
func TestOrder(t *testing.T) {
	x := keptOf(t, `return r { check top = a > 0 ; field a : amount 0 ; line last : amount 0 up = sum ( k . u ) + a ;
		section k max 9 { line u : amount 0 up = sum ( m . v ) + a ; check both = a < 5 ; section m max 9 { line v : amount 0 up = a ; check less = v < 5 ; } section n max 9 { line w : amount 0 up = - a ; } } }`)
	for _, at := range []string{"/ k", "/ k", "/k:1 m", "/k:1 m", "/k:1 n", "/k:2 n", "/k:2 m"} {
		r, section, _ := strings.Cut(at, " ")
		x.insert(r, section, 0)
	}
	first := "/.top /k:2.both /k:2/m:7.v /k:2/n:6.w /k:1.both /k:1/m:4.v /k:1/m:3.v /k:1/n:5.w"
	second := " /k:2.u /k:2/m:7.less /k:1.u /k:1/m:4.less /k:1/m:3.less"
	x.want(x.set("/.a", "1"), first+second+" /.last", first+second+" /.last")
	x.move("/k:1", 0)
	x.move("/k:1/m:3", 0)
	x.want(x.set("/.a", "2"), "/.top /k:1.both /k:1/m:3.v /k:1/m:4.v /k:1/n:5.w /k:2.both /k:2/m:7.v /k:2/n:6.w /k:1.u /k:1/m:3.less /k:1/m:4.less /k:2.u /k:2/m:7.less /.last",
		"/k:1/m:3.v /k:1/m:4.v /k:1/n:5.w /k:2/m:7.v /k:2/n:6.w /k:1.u /k:2.u /.last")
}

// A chain of lines over many sections, there and back; each cell is reckoned once, though it reads many that change.
func TestChain(t *testing.T) {
	x := keptOf(t, `return r { field a : amount 0 ; line l0 : amount 0 up = a ; line l2 : amount 0 up = sum ( k . l1 ) + l0 + a ; line l4 : amount 0 up = min ( k . l3 ) + l2 + l0 + a ; check l5 = l4 > l2 ;
		section k max 9 { line l1 : amount 0 up = l0 + a + b ; field b : amount 0 ; line l3 : amount 0 up = l2 + l1 + l0 + sum ( m . l9 ) ; section m max 9 { line l9 : amount 0 up = l2 + l1 ; check l8 = l4 > l9 ; } } }`)
	x.set("/.a", "1")
	for range 2 {
		x.insert("/", "k", 0)
	}
	x.set("/k:1.b", "1")
	x.set("/k:2.b", "1")
	x.insert("/k:2", "m", 0)
	all := "/.l0 /k:2.l1 /k:1.l1 /.l2 /k:2/m:3.l9 /k:2.l3 /k:1.l3 /.l4 /.l5 /k:2/m:3.l8"
	changed := "/.l0 /k:2.l1 /k:1.l1 /.l2 /k:2/m:3.l9 /k:2.l3 /k:1.l3 /.l4"
	x.want(x.set("/.a", "2"), all, changed)
	x.is("/.l2", "14", "/k:1.l1", "5", "/k:1.l3", "21", "/k:2/m:3.l9", "19", "/k:2.l3", "40", "/.l4", "39")
	x.want(x.set("/k:1.b", "2"), "/k:1.l1 /.l2 /k:2/m:3.l9 /k:2.l3 /k:1.l3 /.l4 /.l5 /k:2/m:3.l8", "/k:1.l1 /.l2 /k:2/m:3.l9 /k:2.l3 /k:1.l3 /.l4")
	x.delete("/k:2")
	x.is("/.l2", "10", "/.l4", "32")
}

// A sibling's column, or one of the same name, is another one: cells that do not read it are let alone.
func TestSiblings(t *testing.T) {
	x := keptOf(t, `return r { line p : amount 0 up = sum ( k . a ) ; line q : amount 0 up = sum ( m . a ) ; line s : amount 0 up = sum ( k . b ) ;
		section k max 9 { field a : amount 0 ; field b : amount 0 ; line t : amount 0 up = a ; section n max 9 { line d : amount 0 up = b ; } }
		section m max 9 { field a : amount 0 ; line t : amount 0 up = a ; } }`)
	for _, section := range []string{"k", "k", "m", "m"} {
		x.insert("/", section, 0)
	}
	x.insert("/k:1", "n", 0)
	x.insert("/k:2", "n", 0)
	x.want(x.set("/k:1.a", "1"), "/.p /k:1.t", "/.p /k:1.t")
	x.want(x.set("/m:3.a", "2"), "/.q /m:3.t", "/.q /m:3.t")
	x.want(x.set("/k:2.b", "3"), "/.s /k:2/n:6.d", "/.s /k:2/n:6.d")
	x.is("/.p", "1", "/.q", "2", "/.s", "3", "/k:1/n:5.d", "blank")
}

// Fields of rows around, some steps further out, and values of all kinds.
func TestKinds(t *testing.T) {
	x := keptOf(t, `return r { field n : amount 2 ; field f : flag ; field w : text ; section k max 9 { section m max 9 { section o max 9 {
		line num : amount 1 floor = n ; line no : flag = not f ; line said : text = w ; check none = blank ( w ) or f ; } } } }`)
	x.insert("/", "k", 0)
	x.insert("/k:1", "m", 0)
	x.insert("/k:1/m:2", "o", 0)
	o := "/k:1/m:2/o:3"
	x.is(o+".num", "blank", o+".no", "!3", o+".said", "blank", o+".none", "!3")
	x.want(x.set("/.n", "1.99"), o+".num", o+".num")
	x.want(x.set("/.n", "1.90"), o+".num", "")
	x.want(x.set("/.f", "false"), o+".no "+o+".none", o+".no "+o+".none")
	x.want(x.set("/.w", "''"), o+".said "+o+".none", o+".said "+o+".none")
	x.want(x.set("/.w", "'a'"), o+".said "+o+".none", o+".said")
	x.want(x.clear("/.w"), o+".said "+o+".none", o+".said "+o+".none")
	x.is(o+".num", "1.9", o+".no", "true", o+".said", "blank", o+".none", "true")
}

// What a row that is put in brings with it is told once each, and nothing that is told stands there twice.
func TestOnce(t *testing.T) {
	x := taleOf(t)
	for _, got := range []api.Edited{x.insert("/", "jobs", 0), x.set("/.fee", "9.0000"), x.delete("/jobs:1/days:5"), x.clear("/.f"), x.move("/cars:3", 1)} {
		for n, c := range got.Reckoned {
			if slices.Contains(got.Reckoned[:n], c) {
				t.Error("twice", x.text([]api.Cell{c}))
			}
		}
		for _, c := range got.Changed {
			if !slices.Contains(got.Reckoned, c) {
				t.Error("changed, not reckoned", x.text([]api.Cell{c}))
			}
		}
	}
}
