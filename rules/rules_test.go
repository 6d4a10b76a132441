package rules_test

import (
	"math"
	"slices"
	"testing"

	"excise/api"
	"excise/rules"
)

// filled are values whose other parts are filled: the Kind alone tells what they are.
func filled(kind int) []api.Value {
	num := valueOf("1.5").Num
	return []api.Value{
		{Kind: kind},
		{Kind: kind, Flag: true},
		{Kind: kind, Num: num, Text: "x", Err: api.EvLow},
		{Kind: kind, Num: num, Text: "x", Err: -3, Flag: true},
		{Kind: kind, Num: api.Dec{Neg: true, Scale: -1}, Text: "true", Err: math.MinInt},
		{Kind: kind, Err: math.MaxInt, Flag: true},
	}
}

// P21.1: One, of each Kind of item with each Kind of value, and of Kinds that there are not.
func TestOne(t *testing.T) {
	kinds := []int{api.VBlank, api.VNum, api.VFlag, api.VText, api.VErr, 5, 6, -1, math.MinInt, math.MaxInt}
	hold := func(i api.Item, v api.Value, kind, err int) {
		t.Helper()
		for _, like := range []api.Item{{}, {Name: "a", Type: api.Type{Kind: api.VFlag}, Policy: 3, Expr: api.Expr{Kind: api.ExConst, Value: valueOf("false")}}} {
			like.Kind, like.Need = i.Kind, i.Need
			if k, n := rules.One(like, v); k != kind || n != err {
				t.Errorf("One of %v, %v: %d %d, not %d %d", like, v, k, n, kind, err)
			}
		}
	}
	for _, k := range kinds {
		for _, v := range filled(k) {
			hold(api.Item{Kind: api.ItField}, v, 0, 0)
			hold(api.Item{Kind: 0, Need: true}, v, 0, 0)
			for _, no := range []int{0, 4, 5, -1, math.MinInt, math.MaxInt} {
				hold(api.Item{Kind: no}, v, 0, 0)
				hold(api.Item{Kind: no, Need: true}, v, 0, 0)
			}
			need, lineKind, lineErr, checkKind, checkErr := 0, 0, 0, api.FtError, api.EvType
			switch {
			case k == api.VBlank:
				need, checkKind, checkErr = api.FtNeed, api.FtBlank, 0
			case k == api.VFlag && v.Flag:
				checkKind, checkErr = 0, 0
			case k == api.VFlag:
				checkKind, checkErr = api.FtFalse, 0
			case k == api.VErr:
				lineKind, lineErr, checkErr = api.FtError, v.Err, v.Err
			}
			hold(api.Item{Kind: api.ItField, Need: true}, v, need, 0)
			for _, needed := range []bool{false, true} {
				hold(api.Item{Kind: api.ItLine, Need: needed}, v, lineKind, lineErr)
				hold(api.Item{Kind: api.ItCheck, Need: needed}, v, checkKind, checkErr)
			}
		}
	}
	for _, err := range []int{0, 1, 2, 3, 4, 5, 6, -1, math.MinInt, math.MaxInt} {
		hold(api.Item{Kind: api.ItLine}, api.Value{Kind: api.VErr, Err: err}, api.FtError, err)
		hold(api.Item{Kind: api.ItCheck}, api.Value{Kind: api.VErr, Err: err}, api.FtError, err)
		hold(api.Item{Kind: api.ItField, Need: true}, api.Value{Kind: api.VErr, Err: err}, 0, 0)
	}
}

// skipped holds Skipped of cells, by texts, with names.
func (x ret) skipped(want bool, names []string, cells ...string) {
	x.t.Helper()
	for _, s := range cells {
		if rules.Skipped(x.Store, x.cell(s), names...) != want {
			x.t.Errorf("Skipped of %s by %q is not %v", s, names, want)
		}
	}
}

// P21.2: Skipped, of the root's fields and of rows within it.
func TestSkipped(t *testing.T) {
	x := taleOf(t)
	within := []string{"/jobs:1.ok", "/jobs:1.p", "/jobs:2.x", "/jobs:2.free", "/jobs:2/days:5.h", "/jobs:2/days:6.own", "/jobs:2/days:6/parts:8.share", "/jobs:1/days:13/parts:14.q", "/jobs:2/days:6/parts:7.few"}
	others := []string{"/cars:3.h", "/cars:4/jobs:9.k", "/cars:4/jobs:10.sure", "/.a", "/.t", "/.c", "/.note", "/.who"}
	for _, names := range [][]string{{"jobs"}, {"jobs", "jobs"}, {"", "x y", "jobs"}, {"jobs", "days", "p", "h"}} {
		x.skipped(true, names, within...)
		x.skipped(false, names, others...)
	}
	x.skipped(true, []string{"cars"}, "/cars:3.h", "/cars:4.h", "/cars:4/jobs:9.k", "/cars:4/jobs:10.sure")
	x.skipped(false, []string{"cars"}, within...)
	x.skipped(true, []string{"a", "note"}, "/.a", "/.note")
	x.skipped(false, []string{"a", "note"}, "/.who", "/.t", "/.c")
	x.skipped(true, []string{"yards", "who", "who"}, "/.who")
	// Lines and checks of the root are none of a page's, nor are the names of items, and of sections further within.
	for _, names := range [][]string{nil, {}, {""}, {"nobody", "JOBS", "job", "jobss", "r", "/"}, {"t", "c"}, {"p", "h", "k", "q", "days", "parts", "x"}} {
		x.skipped(false, names, append(within, others...)...)
	}
}

// The item counts for nothing in rows within the root.
func TestSkippedItems(t *testing.T) {
	x := taleOf(t)
	for _, item := range append([]int{0, 1, 2, 3, 4, 5}, noPlaces...) {
		for _, r := range []api.Row{row(jobs, 1), row(days, 2, 6), row(parts, 2, 6, 8), row(yards, 12)} {
			if !rules.Skipped(x.Store, cell(r, item), "jobs", "yards") {
				t.Error("not skipped", r, item)
			}
		}
		if got := rules.Skipped(x.Store, cell(root, item), "a", "t", "c", "note", ""); got != (item == 1 || item == 3) {
			t.Error("root", item, got)
		}
	}
}

func TestSkippedAway(t *testing.T) {
	x := taleOf(t)
	for _, r := range away() {
		for _, item := range append([]int{0, 1}, noPlaces...) {
			if rules.Skipped(x.Store, cell(r, item), "a", "jobs", "cars", "yards", "days", "parts", "") {
				t.Error("skipped", r, item)
			}
		}
	}
	x.Delete(row(jobs, 2))
	for _, r := range []api.Row{row(jobs, 2), row(days, 2, 6), row(parts, 2, 6, 8)} {
		if rules.Skipped(x.Store, cell(r, 0), "jobs") || rules.At(x.Store, r) != nil {
			t.Error("gone, but skipped", r)
		}
	}
}

// P21.2: At, of each row, also behind moves and deletes.
func TestAt(t *testing.T) {
	x := taleOf(t)
	hold := func(s string, want ...int) {
		t.Helper()
		if got := rules.At(x.Store, x.row(s)); !slices.Equal(got, want) {
			t.Errorf("At of %s: %v, not %v", s, got, want)
		}
	}
	hold("/")
	hold("/jobs:1", 1, 0)
	hold("/jobs:2", 1, 1)
	hold("/cars:4", 4, 1)
	hold("/jobs:2/days:5", 1, 1, 2, 0)
	hold("/jobs:2/days:6/parts:8", 1, 1, 2, 1, 3, 1)
	hold("/jobs:1/days:13/parts:14", 1, 0, 2, 0, 3, 0)
	hold("/cars:4/jobs:10", 4, 1, 5, 1)
	hold("/yards:12", 6, 1)
	for _, r := range away() {
		if got := rules.At(x.Store, r); got != nil {
			t.Error("At of a row that is not there", r, got)
		}
	}
	x.Move(row(jobs, 2), 0)
	x.Move(row(days, 2, 6), 0)
	hold("/jobs:1", 1, 1)
	hold("/jobs:2/days:6/parts:8", 1, 0, 2, 0, 3, 1)
	hold("/jobs:1/days:13/parts:14", 1, 1, 2, 0, 3, 0)
	x.Delete(row(jobs, 2))
	x.Delete(row(cars, 3))
	hold("/jobs:1/days:13", 1, 0, 2, 0)
	hold("/cars:4/jobs:9", 4, 0, 5, 0)
}

// The chapter's own example: a needed field h that is blank, in the second row of days within the first one of jobs.
func TestExample(t *testing.T) {
	x := retOf(t, "return r { section jobs max 3 { section days max 3 { field h : amount 2 needed ; } } }")
	x.add("/", "jobs")
	x.add("/jobs:1", "days", "days")
	x.put("/jobs:1/days:2.h", "1.00")
	x.want("needed /jobs[0]/days[1].h")
}

// DOC.md's first example: what is needed, and what comes of it.
func TestNeededField(t *testing.T) {
	x := retOf(t, "return r { field a : amount 2 needed ; line t : amount 2 half_up = a * 0.25 ; check c = t > 0 ; }")
	x.say("/.t", "!3", "/.c", "!3")
	x.want("needed .a\nerror 3 .t\nerror 3 .c")
	x.want("error 3 .t\nerror 3 .c", "a")
	x.want("needed .a\nerror 3 .t\nerror 3 .c", "t", "c")
	x.put("/.a", "10.00")
	x.say("/.t", "2.50", "/.c", "true")
	x.want("")
}

// saidTale is taleOf with some fields filled, and with lines of each kind of value.
func saidTale(t *testing.T) ret {
	t.Helper()
	x := taleOf(t)
	x.put("/.a", "2.00", "/jobs:1.p", "true", "/jobs:2.p", "false", "/jobs:1/days:13.h", "1.0", "/jobs:2/days:5.h", "0.0", "/cars:3.h", "1", "/jobs:2/days:6/parts:7.q", "''", "/cars:4/jobs:9.k", "false")
	x.say("/.t", "4.00", "/.c", "true", "/jobs:1.ok", "true", "/jobs:1.x", "1", "/jobs:2.ok", "false", "/jobs:2.x", "!3", "/jobs:2/days:6.own", "!1", "/jobs:2/days:6/parts:7.few", "!5",
		"/jobs:2/days:6/parts:8.few", "7", "/jobs:1/days:13/parts:14.few", "true", "/cars:4/jobs:9.sure", "'true'")
	return x
}

const saidFaults = `needed .who
	needed /jobs[0]/days[0]/parts[0].q
	false /jobs[1].ok
	error 3 /jobs[1].x
	needed /jobs[1]/days[1].h
	error 1 /jobs[1]/days[1].own
	error 5 /jobs[1]/days[1]/parts[0].few
	needed /jobs[1]/days[1]/parts[1].q
	error 2 /jobs[1]/days[1]/parts[1].few
	needed /cars[1].h
	error 2 /cars[1]/jobs[0].sure
	needed /cars[1]/jobs[1].k
	blank /cars[1]/jobs[1].sure`

// P21.3: Faults, of all cells, with names and without.
func TestFaults(t *testing.T) {
	x := saidTale(t)
	x.want(saidFaults)
	for _, names := range [][]string{{}, {""}, {"days", "parts", "h", "q", "k", "c", "t", "nobody"}} {
		x.want(saidFaults, names...)
	}
	within := `needed .who
		false /jobs[1].ok
		error 3 /jobs[1].x
		error 1 /jobs[1]/days[1].own
		error 5 /jobs[1]/days[1]/parts[0].few
		error 2 /jobs[1]/days[1]/parts[1].few
		needed /cars[1].h
		error 2 /cars[1]/jobs[0].sure
		needed /cars[1]/jobs[1].k
		blank /cars[1]/jobs[1].sure`
	x.want(within, "jobs")
	x.want(within, "jobs", "", "jobs", "p")
	x.want(`false /jobs[1].ok
		error 3 /jobs[1].x
		error 1 /jobs[1]/days[1].own
		error 5 /jobs[1]/days[1]/parts[0].few
		error 2 /jobs[1]/days[1]/parts[1].few
		error 2 /cars[1]/jobs[0].sure
		blank /cars[1]/jobs[1].sure`, "who", "cars", "jobs")
}

// Of lines that say nothing checks are blank; what lines say of fields, and of cells that there are not, counts for nothing.
func TestLinesSay(t *testing.T) {
	x := retOf(t, "return r { field a : amount 0 needed ; line t : amount 0 up = a ; check c = true ; field b : flag ; section k max 3 { check d = true ; field e : flag needed ; line f : flag = e ; } }")
	x.add("/", "k", "k")
	nothing := "needed .a\nblank .c\nblank /k[0].d\nneeded /k[0].e\nblank /k[1].d\nneeded /k[1].e"
	x.want(nothing)
	x.lines = nil
	x.want(nothing)
	x.lines = map[api.Cell]api.Value{}
	x.say("/.a", "7", "/.b", "!3", "/k:1.e", "true", "/k:2.e", "!1")
	for _, c := range []api.Cell{cell(root, -1), cell(root, 4), cell(row(1, 3), 0), cell(row(1), 0), cell(row(2, 1), 0), cell(row(-1), 0), cell(row(0, 1), 1), cell(row(1, 1, 1), 0), cell(row(math.MaxInt, math.MinInt64), math.MinInt)} {
		x.lines[c] = valueOf("!4")
	}
	x.want(nothing)
	x.say("/k:2.d", "true", "/.t", "!2")
	x.want("needed .a\nerror 2 .t\nblank .c\nblank /k[0].d\nneeded /k[0].e\nneeded /k[1].e")
	x.say("/.t", "blank", "/k:1.f", "!1", "/.c", "blank")
	x.want("needed .a\nblank .c\nblank /k[0].d\nneeded /k[0].e\nerror 1 /k[0].f\nneeded /k[1].e")
	x.put("/.a", "0", "/k:1.e", "false", "/k:2.e", "true")
	x.want("blank .c\nblank /k[0].d\nerror 1 /k[0].f")
}

// Rows that are moved and deleted: ids and places part.
func TestFaultsBehindMoves(t *testing.T) {
	x := saidTale(t)
	x.Move(row(jobs, 2), 0)
	x.Move(row(days, 2, 6), 0)
	x.Move(row(parts, 2, 6, 8), 0)
	x.want(`needed .who
		false /jobs[0].ok
		error 3 /jobs[0].x
		needed /jobs[0]/days[0].h
		error 1 /jobs[0]/days[0].own
		needed /jobs[0]/days[0]/parts[0].q
		error 2 /jobs[0]/days[0]/parts[0].few
		error 5 /jobs[0]/days[0]/parts[1].few
		needed /jobs[1]/days[0]/parts[0].q
		needed /cars[1].h
		error 2 /cars[1]/jobs[0].sure
		needed /cars[1]/jobs[1].k
		blank /cars[1]/jobs[1].sure`)
	x.Delete(row(days, 2, 6))
	x.Delete(row(cars, 3))
	x.Delete(row(carJobs, 4, 9))
	x.Insert(root, jobs, 0)
	x.want(`needed .who
		blank /jobs[0].ok
		needed /jobs[0].p
		false /jobs[1].ok
		error 3 /jobs[1].x
		needed /jobs[2]/days[0]/parts[0].q
		needed /cars[0].h
		needed /cars[0]/jobs[0].k
		blank /cars[0]/jobs[0].sure`)
	if got := rules.Faults(x.Store, x.lines); got[1].Cell != cell(row(jobs, 15), 0) || got[3].Cell != cell(row(jobs, 2), 0) || got[7].Cell != cell(row(carJobs, 4, 10), 0) {
		t.Error("Cells:", got)
	}
}

// P21.3: Of, whatever value it is handed.
func TestOf(t *testing.T) {
	x := saidTale(t)
	hold := func(s, v string, want api.Fault, names ...string) {
		t.Helper()
		c := x.cell(s)
		want.Cell = c
		if got, ok := rules.Of(x.Store, c, valueOf(v), names...); !ok || !sameFault(got, want) {
			t.Errorf("Of %s, %s: %v %v, not %v", s, v, got, ok, want)
		}
	}
	none := func(s, v string, names ...string) {
		t.Helper()
		if got, ok := rules.Of(x.Store, x.cell(s), valueOf(v), names...); ok || !sameFault(got, api.Fault{}) {
			t.Errorf("Of %s, %s: %v %v", s, v, got, ok)
		}
	}
	hold("/.a", "blank", api.Fault{Kind: api.FtNeed})
	hold("/.a", "blank", api.Fault{Kind: api.FtNeed}, "b", "who", "jobs", "")
	none("/.a", "blank", "b", "a")
	none("/.a", "0", "b")
	none("/.a", "!3")
	none("/.note", "blank")
	none("/.t", "blank")
	hold("/.t", "!4", api.Fault{Kind: api.FtError, Err: api.EvNone}, "t", "a")
	hold("/.c", "blank", api.Fault{Kind: api.FtBlank}, "c")
	hold("/.c", "false", api.Fault{Kind: api.FtFalse}, "c")
	hold("/.c", "!0", api.Fault{Kind: api.FtError})
	hold("/.c", "!-7", api.Fault{Kind: api.FtError, Err: -7})
	hold("/.c", "1", api.Fault{Kind: api.FtError, Err: api.EvType})
	none("/.c", "true")
	part := []int{jobs, 1, days, 1, parts, 1}
	hold("/jobs:2/days:6/parts:8.q", "blank", api.Fault{Kind: api.FtNeed, At: part})
	hold("/jobs:2/days:6/parts:8.q", "blank", api.Fault{Kind: api.FtNeed, At: part}, "days", "parts", "q", "cars")
	none("/jobs:2/days:6/parts:8.q", "blank", "jobs")
	hold("/jobs:2/days:6/parts:8.few", "blank", api.Fault{Kind: api.FtBlank, At: part}, "jobs")
	hold("/jobs:2/days:6/parts:8.share", "!1", api.Fault{Kind: api.FtError, Err: 1, At: part}, "jobs")
	none("/cars:4/jobs:10.k", "blank", "cars")
	hold("/cars:4/jobs:10.k", "blank", api.Fault{Kind: api.FtNeed, At: []int{cars, 1, carJobs, 1}}, "jobs")
	hold("/cars:3.h", "blank", api.Fault{Kind: api.FtNeed, At: []int{cars, 0}}, "jobs")
}

// Where more than one ground says that there is no fault, there is none.
func TestOfAway(t *testing.T) {
	x := saidTale(t)
	var cells []api.Cell
	for _, r := range away() {
		cells = append(cells, cell(r, 0), cell(r, 1), cell(r, 2), cell(r, -1), cell(r, 99))
	}
	for r := range x.All() {
		for _, item := range append([]int{len(x.l[r.Section].Items)}, noPlaces...) {
			cells = append(cells, cell(r, item))
		}
	}
	for _, c := range cells {
		for _, v := range []string{"blank", "false", "true", "!3", "1", "'x'"} {
			for _, names := range [][]string{nil, {"a", "who", "jobs", "cars"}} {
				if got, ok := rules.Of(x.Store, c, valueOf(v), names...); ok || !sameFault(got, api.Fault{}) {
					t.Errorf("Of %v, %s: %v %v", c, v, got, ok)
				}
			}
		}
	}
}
