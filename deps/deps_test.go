package deps_test

import (
	"slices"
	"testing"

	"excise/api"
	"excise/deps"
)

// The chapter's own example.
func TestExample(t *testing.T) {
	x := retOf(t, "return r { field a : amount 0 ; section s max 9 { line t : amount 0 up = a ; } line all : amount 0 up = sum ( s . t ) ; }")
	x.each("Users", deps.Users, "/.a", "", "/.all", "")
	x.want("Dirty", deps.Dirty(x.Store, x.cell("/.a")), "")
	x.add(1, 0, "/", "/", "/")
	x.each("Users", deps.Users, "/.a", "/s:3.t /s:2.t /s:1.t", "/s:2.t", "/.all", "/.all", "")
	x.each("Reads", deps.Reads, "/.a", "", "/s:2.t", "/.a", "/.all", "/s:3.t /s:2.t /s:1.t")
	x.want("Dirty", deps.Dirty(x.Store, x.cell("/.a")), "/s:3.t /s:2.t /s:1.t /.all")
}

// P19.1, Cells: lines and checks alone.
func TestCells(t *testing.T) {
	x := retOf(t, tale)
	x.want("Cells", deps.Cells(x.Store), "/.due /.total /.some /.still")
	x = taleOf(t)
	x.want("Cells", deps.Cells(x.Store), `/.due /.total /.some /.still
		/jobs:1.short /jobs:1.pay /jobs:1.hours
		/jobs:1/days:6.most /jobs:1/days:6.own
		/jobs:1/days:6/parts:8.share /jobs:1/days:6/parts:8.named /jobs:1/days:6/parts:9.share /jobs:1/days:6/parts:9.named
		/jobs:1/days:5.most /jobs:1/days:5.own
		/jobs:2.short /jobs:2.pay /jobs:2.hours /jobs:2/days:7.most /jobs:2/days:7.own
		/jobs:2/days:7/parts:10.share /jobs:2/days:7/parts:10.named
		/cars:4.twice /cars:4.less /cars:3.twice /cars:3.less`)
}

func TestCellsOfFieldsAlone(t *testing.T) {
	x := retOf(t, "return r { field a : amount 0 ; section k max 9 { field b : amount 0 ; section m max 9 { } } }")
	x.add(1, 0, "/", "/")
	x.add(2, 0, "/k:1")
	x.want("Cells", deps.Cells(x.Store), "")
	x = retOf(t, "return r { section k max 9 { field b : amount 0 ; section m max 9 { check c = b > 0 ; } } }")
	x.want("Cells", deps.Cells(x.Store), "")
	x.add(1, 0, "/", "/")
	x.want("Cells", deps.Cells(x.Store), "")
	x.add(2, 0, "/k:1", "/k:2", "/k:2")
	x.want("Cells", deps.Cells(x.Store), "/k:2/m:5.c /k:2/m:4.c /k:1/m:3.c")
	x = retOf(t, "return r { }")
	x.want("Cells", deps.Cells(x.Store), "")
}

// P19.1, Own: a row's lines and checks, not those of the rows around it or within.
func TestOwn(t *testing.T) {
	x := taleOf(t)
	x.add(yards, 0, "/")
	x.add(holes, 0, "/yards:12")
	for r, want := range map[string]string{
		"/": "/.due /.total /.some /.still", "/jobs:1": "/jobs:1.short /jobs:1.pay /jobs:1.hours", "/jobs:2": "/jobs:2.short /jobs:2.pay /jobs:2.hours",
		"/jobs:1/days:5": "/jobs:1/days:5.most /jobs:1/days:5.own", "/jobs:1/days:6/parts:9": "/jobs:1/days:6/parts:9.share /jobs:1/days:6/parts:9.named",
		"/jobs:2/notes:11": "", "/cars:3": "/cars:3.twice /cars:3.less", "/yards:12": "/yards:12.big /yards:12.deep", "/yards:12/holes:13": "",
	} {
		x.want("Own "+r, deps.Own(x.Store, x.row(r)), want)
	}
	x = retOf(t, "return r { field a : amount 0 ; }")
	x.want("Own", deps.Own(x.Store, root), "")
	x = retOf(t, "return r { check c = true ; field a : amount 0 ; line d : flag = true ; check b = c2 ; field c2 : flag ; }")
	x.want("Own", deps.Own(x.Store, root), "/.c /.d /.b")
}

// P19.1, Sort: by rank, then by rows, then by items.
func TestSort(t *testing.T) {
	x := taleOf(t)
	for l, want := range map[string]string{
		"":                                    "",
		"/.fee":                               "/.fee",
		"/.due":                               "/.due",
		"/.due /.due":                         "/.due",
		"/.due /.fee /.due /.fee /.due":       "/.fee /.due",
		"/.due /.total":                       "/.total /.due",
		"/.some /.due /.total /.fee":          "/.fee /.total /.due /.some",
		"/.still /.f /.fee":                   "/.fee /.f /.still",
		"/.due /.still":                       "/.still /.due",
		"/cars:3.km /cars:4.km /.f":           "/.f /cars:4.km /cars:3.km",
		"/jobs:2.wage /jobs:1.wage":           "/jobs:1.wage /jobs:2.wage",
		"/jobs:1.hours /jobs:1.short":         "/jobs:1.short /jobs:1.hours",
		"/jobs:1.hours /jobs:1.pay":           "/jobs:1.hours /jobs:1.pay",
		"/jobs:2.pay /.total /jobs:1.pay":     "/jobs:1.pay /jobs:2.pay /.total",
		"/jobs:2.hours /jobs:1/days:6.own":    "/jobs:1/days:6.own /jobs:2.hours",
		"/jobs:2/days:7.own /jobs:2.hours":    "/jobs:2.hours /jobs:2/days:7.own",
		"/jobs:1/days:5.own /jobs:1/days:6.h": "/jobs:1/days:6.h /jobs:1/days:5.own",
		"/jobs:1/days:5.h /jobs:1/days:6/parts:8.p /jobs:1/days:6/parts:9.p /jobs:1/days:6.h": "/jobs:1/days:6.h /jobs:1/days:6/parts:8.p /jobs:1/days:6/parts:9.p /jobs:1/days:5.h",
		"/cars:4.km /jobs:2/notes:11.note /jobs:2/days:7/parts:10.p /jobs:2/days:7.h":         "/jobs:2/days:7.h /jobs:2/days:7/parts:10.p /jobs:2/notes:11.note /cars:4.km",
		"/cars:4.less /jobs:1/days:6/parts:8.named /.due /cars:3.twice":                       "/cars:3.twice /.due /jobs:1/days:6/parts:8.named /cars:4.less",
		"/cars:3.less /cars:3.twice /cars:4.less /cars:4.twice":                               "/cars:4.twice /cars:3.twice /cars:4.less /cars:3.less",
		"/jobs:2/days:7.most /.total /jobs:1/days:5.most":                                     "/.total /jobs:1/days:5.most /jobs:2/days:7.most",
	} {
		x.want("Sort "+l, deps.Sort(x.Store, x.cells(l)...), want)
	}
	x.want("Sort of all", deps.Sort(x.Store, x.everyCell()...), taleSorted)
	all := x.everyCell()
	slices.Reverse(all)
	x.want("Sort of all from behind", deps.Sort(x.Store, slices.Concat(all, all)...), taleSorted)
}

// taleSorted is all cells of taleOf, by rank.
const taleSorted = `/.fee /.f /.still /jobs:1.wage /jobs:1/days:6.h /jobs:1/days:6/parts:8.p /jobs:1/days:6/parts:9.p /jobs:1/days:5.h
	/jobs:2.wage /jobs:2/days:7.h /jobs:2/days:7/parts:10.p /jobs:2/notes:11.note /cars:4.km /cars:3.km
	/jobs:1.short /jobs:1.hours /jobs:1/days:6.own /jobs:1/days:5.own /jobs:2.short /jobs:2.hours /jobs:2/days:7.own /cars:4.twice /cars:3.twice
	/jobs:1.pay /jobs:1/days:6/parts:8.share /jobs:1/days:6/parts:9.share /jobs:2.pay /jobs:2/days:7/parts:10.share
	/.total /jobs:1/days:6.most /jobs:1/days:5.most /jobs:2/days:7.most
	/.due /jobs:1/days:6/parts:8.named /jobs:1/days:6/parts:9.named /jobs:2/days:7/parts:10.named /cars:4.less /cars:3.less
	/.some`

// Rows stand by places, however many there are, not by ids.
func TestSortOfManyRows(t *testing.T) {
	x := retOf(t, "return r { section k max 1024 { field a : amount 0 ; line b : amount 0 up = a ; section m max 1024 { field c : amount 0 ; } } section n max 9 { field d : amount 0 ; } }")
	x.add(3, 0, "/")
	for range 300 {
		x.add(1, 0, "/")
	}
	x.add(1, 150, "/")
	for range 12 {
		x.add(2, 0, "/k:2", "/k:301")
	}
	every := x.everyCell()
	want := slices.DeleteFunc(slices.Clone(every), func(c api.Cell) bool { return c.Row.Section == 1 && c.Item == 1 })
	want = append(want, slices.DeleteFunc(slices.Clone(every), func(c api.Cell) bool { return c.Row.Section != 1 || c.Item != 1 })...)
	slices.SortFunc(every, func(a, b api.Cell) int { return int(b.Row.Ids[0]+7*b.Row.Ids[1]) - int(a.Row.Ids[0]+7*a.Row.Ids[1]) })
	if got := deps.Sort(x.Store, every...); !slices.Equal(got, want) {
		t.Error("Sort:", x.text(got))
	}
}

// P19.1, Rank.
func TestRank(t *testing.T) {
	x := taleOf(t)
	for c, want := range map[string]int{
		"/.fee": 0, "/.f": 0, "/.still": 0, "/.total": 3, "/.due": 4, "/.some": 5, "/jobs:1.wage": 0, "/jobs:1.short": 1, "/jobs:1.hours": 1, "/jobs:1.pay": 2, "/jobs:2.pay": 2,
		"/jobs:1/days:5.h": 0, "/jobs:1/days:5.own": 1, "/jobs:1/days:5.most": 3, "/jobs:2/days:7/parts:10.share": 2, "/jobs:2/days:7/parts:10.p": 0, "/jobs:2/days:7/parts:10.named": 4,
		"/jobs:2/notes:11.note": 0, "/cars:3.km": 0, "/cars:3.twice": 1, "/cars:4.less": 4,
	} {
		if got := deps.Rank(x.Store, x.cell(c)); got != want {
			t.Errorf("Rank of %s: %d, not %d", c, got, want)
		}
	}
}

// P19.2, Reads.
func TestReads(t *testing.T) {
	x := taleOf(t)
	x.add(yards, 0, "/")
	x.add(holes, 0, "/yards:12")
	x.each("Reads", deps.Reads,
		// fields, and what reads nothing
		"/.fee", "", "/.f", "", "/jobs:1.wage", "", "/jobs:2/notes:11.note", "", "/.still", "", "/yards:12.big", "",
		// its own section, by items
		"/.due", "/.fee /.total", "/jobs:2.pay", "/jobs:2.wage /jobs:2.hours",
		// with rows, too, and a column read twice
		"/.some", "/.due", "/.total", "/jobs:1.pay /jobs:2.pay", "/yards:12.deep", "/yards:12.g",
		// a column over two rows, one, none
		"/jobs:1.hours", "/jobs:1/days:6.h /jobs:1/days:5.h", "/jobs:1.short", "/jobs:1/days:6.h /jobs:1/days:5.h", "/jobs:2.hours", "/jobs:2/days:7.h",
		"/jobs:1/days:6.most", "/jobs:1/days:6/parts:8.share /jobs:1/days:6/parts:9.share", "/jobs:1/days:5.most", "", "/jobs:2/days:7.most", "/jobs:2/days:7/parts:10.share",
		// sections around, and further out
		"/jobs:1/days:5.own", "/.fee /.f /jobs:1.wage /jobs:1/days:5.h", "/jobs:2/days:7.own", "/.fee /.f /jobs:2.wage /jobs:2/days:7.h",
		"/jobs:1/days:6/parts:9.share", "/jobs:1/days:6.h /jobs:1/days:6.own", "/jobs:1/days:6/parts:9.named", "/.fee /.total /jobs:1/days:6/parts:9.p",
		"/cars:4.twice", "/.fee /cars:4.km", "/cars:3.less", "/.total /cars:3.twice")
}

// How many rows there are is no cell.
func TestReadsOfRowsAlone(t *testing.T) {
	x := retOf(t, "return r { line many : amount 0 up = rows ( k ) ; check some = rows ( k ) > 1 ; section k max 9 { field a : amount 0 ; } }")
	x.add(1, 0, "/", "/")
	x.each("Reads", deps.Reads, "/.many", "", "/.some", "")
	x.each("Users", deps.Users, "/k:1.a", "", "/.many", "")
	x.want("Dirty", deps.Dirty(x.Store, x.cells("/k:1.a /k:2.a")...), "")
	x.want("Over", deps.Over(x.Store, root, 1), "/.many /.some")
}

// What stands around, in the row, and within it is told in the order of rows, whatever the order in the formula and of the sections.
func TestReadsInOrder(t *testing.T) {
	x := retOf(t, `return r { field a : amount 0 ; section s max 9 { section v max 9 { field e : amount 0 ; field d : amount 0 ; }
		line t : amount 0 up = sum ( w . g ) + c + max ( v . d ) + a + count ( v . e ) + b + sum ( w . g ) + c + min ( v . d ) ;
		field b : amount 0 ; field c : amount 0 ; section w max 9 { field g : amount 0 ; } } }`)
	x.add(1, 0, "/", "/")
	x.each("Reads", deps.Reads, "/s:1.t", "/.a /s:1.b /s:1.c", "/s:2.t", "/.a /s:2.b /s:2.c")
	x.add(3, 0, "/s:1", "/s:1", "/s:2")
	x.add(2, 0, "/s:1", "/s:1", "/s:2")
	x.each("Reads", deps.Reads,
		"/s:1.t", "/.a /s:1.b /s:1.c /s:1/v:7.e /s:1/v:7.d /s:1/v:6.e /s:1/v:6.d /s:1/w:4.g /s:1/w:3.g",
		"/s:2.t", "/.a /s:2.b /s:2.c /s:2/v:8.e /s:2/v:8.d /s:2/w:5.g")
}

// P19.2, Users.
func TestUsers(t *testing.T) {
	x := taleOf(t)
	x.each("Users", deps.Users,
		// none
		"/.some", "", "/.still", "", "/jobs:1.short", "", "/jobs:1/days:5.most", "", "/jobs:2/notes:11.note", "", "/cars:3.less", "", "/jobs:1/days:6/parts:8.named", "",
		// its own row
		"/.due", "/.some", "/jobs:1.wage", "/jobs:1.pay /jobs:1/days:6.own /jobs:1/days:5.own", "/jobs:2.wage", "/jobs:2.pay /jobs:2/days:7.own", "/jobs:1.hours", "/jobs:1.pay",
		"/cars:3.km", "/cars:3.twice", "/cars:3.twice", "/cars:3.less", "/jobs:2/days:7/parts:10.p", "/jobs:2/days:7/parts:10.named",
		// the row around
		"/jobs:2.pay", "/.total", "/jobs:1/days:6/parts:9.share", "/jobs:1/days:6.most", "/jobs:2/days:7/parts:10.share", "/jobs:2/days:7.most",
		// rows within its own, and not those of others
		"/.fee", `/.due /jobs:1/days:6.own /jobs:1/days:6/parts:8.named /jobs:1/days:6/parts:9.named /jobs:1/days:5.own
			/jobs:2/days:7.own /jobs:2/days:7/parts:10.named /cars:4.twice /cars:3.twice`,
		"/.f", "/jobs:1/days:6.own /jobs:1/days:5.own /jobs:2/days:7.own",
		"/.total", "/.due /jobs:1/days:6/parts:8.named /jobs:1/days:6/parts:9.named /jobs:2/days:7/parts:10.named /cars:4.less /cars:3.less",
		"/jobs:1/days:6.own", "/jobs:1/days:6/parts:8.share /jobs:1/days:6/parts:9.share", "/jobs:1/days:5.own", "", "/jobs:2/days:7.own", "/jobs:2/days:7/parts:10.share",
		// all of these together: around, own, within
		"/jobs:1/days:6.h", "/jobs:1.short /jobs:1.hours /jobs:1/days:6.own /jobs:1/days:6/parts:8.share /jobs:1/days:6/parts:9.share",
		"/jobs:1/days:5.h", "/jobs:1.short /jobs:1.hours /jobs:1/days:5.own", "/jobs:2/days:7.h", "/jobs:2.short /jobs:2.hours /jobs:2/days:7.own /jobs:2/days:7/parts:10.share")
}

// What is read two steps further in alone is looked for there, through rows that read nothing themselves.
func TestUsersFurtherIn(t *testing.T) {
	x := retOf(t, "return r { field a : amount 0 ; section s max 9 { section v max 9 { section y max 9 { check c = a > 0 ; line d : amount 0 up = a + a ; } } section w max 9 { } } }")
	x.add(1, 0, "/", "/")
	x.each("Users", deps.Users, "/.a", "")
	x.add(2, 0, "/s:1", "/s:2", "/s:2")
	x.add(4, 0, "/s:1", "/s:2")
	x.each("Users", deps.Users, "/.a", "")
	x.add(3, 0, "/s:1/v:3", "/s:2/v:4", "/s:2/v:4")
	x.each("Users", deps.Users, "/.a", "/s:2/v:4/y:10.c /s:2/v:4/y:10.d /s:2/v:4/y:9.c /s:2/v:4/y:9.d /s:1/v:3/y:8.c /s:1/v:3/y:8.d")
	x.each("Reads", deps.Reads, "/s:2/v:4/y:9.c", "/.a", "/s:2/v:4/y:9.d", "/.a")
}

// P19.2, Over.
func TestOver(t *testing.T) {
	x := taleOf(t)
	x.add(yards, 0, "/")
	over := func(r string, section int, want string) {
		t.Helper()
		x.want("Over "+r, deps.Over(x.Store, x.row(r), section), want)
	}
	over("/", jobs, "/.total /.some")
	over("/", cars, "/.total")
	over("/", yards, "")
	over("/jobs:1", days, "/jobs:1.short /jobs:1.hours")
	over("/jobs:2", days, "/jobs:2.short /jobs:2.hours")
	over("/jobs:2", notes, "")
	over("/jobs:1/days:6", parts, "/jobs:1/days:6.most")
	over("/jobs:1/days:5", parts, "/jobs:1/days:5.most")
	over("/yards:12", holes, "/yards:12.deep")
	for r := range x.All() {
		for section := range x.l {
			if x.l[section].Parent != r.Section {
				x.want("Over of no kid", deps.Over(x.Store, r, section), "")
			}
		}
		for _, section := range append([]int{len(x.l)}, noPlaces...) {
			x.want("Over of no section", deps.Over(x.Store, r, section), "")
		}
	}
}

// An aggregate may stand at any place of a formula, ahead of others or behind; and sections of one name stand apart, if not within one another.
func TestOverWithin(t *testing.T) {
	x := retOf(t, `return r { field n : amount 0 ;
		line a : amount 0 up = - sum ( k . b ) ; line c : amount 0 up = if ( n > 0 , n , if ( rows ( k ) = 1 , 0 , 1 ) ) ;
		line d : amount 0 up = round ( 2 * ( n + count ( j . b ) ) , 0 , up ) ; check e = blank ( max ( k . b ) ) ; line f : amount 0 up = min ( k . b ) + sum ( j . b ) ; line g : amount 0 up = n ;
		section j max 9 { field b : amount 0 ; section m max 9 { field o : amount 0 ; } line p : amount 0 up = rows ( m ) ; }
		section k max 9 { field b : amount 0 ; section m max 9 { field o : amount 0 ; } line p : amount 0 up = sum ( m . o ) ; } }`)
	x.want("Over j", deps.Over(x.Store, root, 1), "/.d /.f")
	x.want("Over k", deps.Over(x.Store, root, 3), "/.a /.c /.e /.f")
	x.add(1, 0, "/", "/")
	x.add(3, 0, "/")
	x.want("Over j's m", deps.Over(x.Store, x.row("/j:1"), 2), "/j:1.p")
	x.want("Over k's m", deps.Over(x.Store, x.row("/k:3"), 4), "/k:3.p")
	x.want("Over k's m in j", deps.Over(x.Store, x.row("/j:1"), 4), "")
	x.want("Over j's m in k", deps.Over(x.Store, x.row("/k:3"), 2), "")
	x.want("Over m in the root", deps.Over(x.Store, root, 2), "")
}

// P19.3, Dirty.
func TestDirty(t *testing.T) {
	x := taleOf(t)
	named := "/jobs:1/days:6/parts:8.named /jobs:1/days:6/parts:9.named /jobs:2/days:7/parts:10.named"
	behindTotal := "/.due " + named + " /cars:4.less /cars:3.less /.some"
	for l, want := range map[string]string{
		"":                      "",
		"/.some":                "",
		"/.still":               "",
		"/.still /.some":        "",
		"/jobs:2/notes:11.note": "",
		"/.due":                 "/.some",
		"/.due /.due":           "/.some",
		"/.total":               behindTotal,
		"/jobs:2.pay":           "/.total " + behindTotal,
		"/jobs:1.hours":         "/jobs:1.pay /.total " + behindTotal,
		"/cars:3.km":            "/cars:3.twice /cars:3.less",
		"/cars:4.km /cars:3.km": "/cars:4.twice /cars:3.twice /cars:4.less /cars:3.less",
		// what they read in common is told once
		"/jobs:2.pay /jobs:1.pay":            "/.total " + behindTotal,
		"/jobs:2.hours /jobs:1.wage /.total": "/jobs:1/days:6.own /jobs:1/days:5.own /jobs:1.pay /jobs:1/days:6/parts:8.share /jobs:1/days:6/parts:9.share /jobs:2.pay /.total /jobs:1/days:6.most " + behindTotal,
		// what stands in the list and reads another of it is told, what reads none is not
		"/.due /.total":              behindTotal,
		"/.some /.due":               "/.some",
		"/cars:3.twice /cars:3.km":   "/cars:3.twice /cars:3.less",
		"/cars:3.less /cars:4.twice": "/cars:4.less",
		// over rows and back, in more than one way; the most of a day without parts hangs on nothing
		"/jobs:2/days:7.h": "/jobs:2.short /jobs:2.hours /jobs:2/days:7.own /jobs:2.pay /jobs:2/days:7/parts:10.share /.total /jobs:2/days:7.most " + behindTotal,
		"/.f":              "/jobs:1/days:6.own /jobs:1/days:5.own /jobs:2/days:7.own /jobs:1/days:6/parts:8.share /jobs:1/days:6/parts:9.share /jobs:2/days:7/parts:10.share /jobs:1/days:6.most /jobs:2/days:7.most",
	} {
		x.want("Dirty "+l, deps.Dirty(x.Store, x.cells(l)...), want)
	}
}

// A chain that goes in and out, against the order in which its items stand.
func TestDirtyByManySteps(t *testing.T) {
	x := retOf(t, `return r { line z : amount 0 up = sum ( k . y ) ; line b : amount 0 up = a ; field a : amount 0 ; line w : amount 0 up = sum ( k . c ) ; check h = 1 = 1 ;
		section k max 9 { line y : amount 0 up = sum ( m . d ) + x0 ; line x0 : amount 0 up = w ; line c : amount 0 up = b ; section m max 9 { check e = z > 0 ; line d : amount 0 up = x0 ; } } }`)
	x.want("Dirty without rows", deps.Dirty(x.Store, x.cell("/.a")), "/.b")
	x.add(1, 0, "/", "/")
	x.add(2, 0, "/k:1", "/k:1")
	x.want("Dirty", deps.Dirty(x.Store, x.cell("/.a")), "/.b /k:2.c /k:1.c /.w /k:2.x0 /k:1.x0 /k:1/m:4.d /k:1/m:3.d /k:2.y /k:1.y /.z /k:1/m:4.e /k:1/m:3.e")
	x.want("Dirty", deps.Dirty(x.Store, x.cell("/k:2.c")), "/.w /k:2.x0 /k:1.x0 /k:1/m:4.d /k:1/m:3.d /k:2.y /k:1.y /.z /k:1/m:4.e /k:1/m:3.e")
	x.want("Dirty", deps.Dirty(x.Store, x.cell("/k:2.x0")), "/k:2.y /.z /k:1/m:4.e /k:1/m:3.e")
	x.want("Dirty", deps.Dirty(x.Store, x.cell("/k:1/m:3.d"), x.cell("/k:1/m:3.e")), "/k:1.y /.z /k:1/m:4.e /k:1/m:3.e")
}
