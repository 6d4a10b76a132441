package watch_test

import (
	"maps"
	"math"
	"slices"
	"strconv"
	"strings"
	"testing"

	"excise/api"
	"excise/dectext"
	"excise/incr"
	"excise/model"
	"excise/path"
	"excise/rules"
	"excise/schema"
	"excise/store"
	"excise/watch"
)

// tale is the definition that most tests take. Sections: 1 jobs, 2 their days, 3 these' parts, 4 cars, 5 their jobs, 6 yards. Several items and sections have one name.
const tale = `return r {
	line due : amount 2 half_up = total * fee ;
	field fee : amount 2 needed ;
	line total : amount 2 half_up = sum ( jobs . pay ) ;
	check some = rows ( jobs ) > 0 ;
	field on : flag ;
	field who : text needed ;
	check sane = on ;
	line far : amount 0 up = max ( cars . h ) ;
	section jobs max 5 {
		check short = count ( days . h ) <= 2 ;
		field wage : amount 2 needed ;
		line pay : amount 2 down = hours * wage ;
		line hours : amount 1 up = sum ( days . h ) ;
		section days max 9 {
			field h : amount 1 needed ;
			line own : amount 2 half_even = if ( blank ( h ) , 0.00 , h * wage ) ;
			check many = rows ( parts ) < 3 ;
			section parts max 9 {
				line share : text = if ( on , q , "none" ) ;
				field q : text needed ;
				check named = q = who ;
			}
		}
	}
	section cars max 5 {
		field h : amount 0 needed ;
		field note : text ;
		section jobs max 5 { field k : flag needed ; check sure = k ; line tell : amount 0 up = h + 1 ; }
	}
	section yards max 9 { }
}`

const (
	jobs    = 1
	days    = 2
	parts   = 3
	cars    = 4
	carJobs = 5
	yards   = 6
)

var (
	root     = api.Row{}
	noPlaces = []int{-1, -2, 99, math.MinInt, math.MaxInt}
)

// A watched return is one that a test changes, by texts; an incr goes along with it.
type watched struct {
	*watch.Watch
	t    *testing.T
	l    []api.Sect
	with *incr.Incr
}

func schemaOf(t *testing.T, text string) *schema.Schema {
	t.Helper()
	s, at, e := schema.New(text)
	if e != api.OK {
		t.Fatalf("schema.New: %d at %.80q", e, text[at:])
	}
	return s
}

func watchedOf(t *testing.T, text string) watched {
	t.Helper()
	s := schemaOf(t, text)
	w, e := watch.New(s)
	if w == nil || e != api.OK {
		t.Fatal("New", e)
	}
	m, e := incr.New(s)
	if e != api.OK {
		t.Fatal("incr.New", e)
	}
	return watched{w, t, s.Sects(), m}
}

func watchedFrom(t *testing.T, x *store.Store) watched {
	t.Helper()
	w, e := watch.From(x)
	if w == nil || e != api.OK {
		t.Fatal("From", e)
	}
	m, e := incr.From(x)
	if e != api.OK {
		t.Fatal("incr.From", e)
	}
	return watched{w, t, x.Schema().Sects(), m}
}

// clone is a clone, and one of the incr that goes along.
func (x watched) clone() watched { return watched{x.Clone(), x.t, x.l, x.with.Clone()} }

// taleOf is a return of tale with rows in each section; all fields are blank.
func taleOf(t *testing.T) watched {
	t.Helper()
	x := watchedOf(t, tale)
	x.add("/", "jobs", "jobs", "cars", "cars") // 1 to 4
	x.add("/jobs:2", "days", "days")           // 5, 6
	x.add("/jobs:2/days:6", "parts", "parts")  // 7, 8
	x.add("/cars:4", "jobs", "jobs")           // 9, 10
	x.add("/", "yards", "yards")               // 11, 12
	x.add("/jobs:1", "days")                   // 13
	x.add("/jobs:1/days:13", "parts")          // 14
	return x
}

// goodTale is taleOf without any fault.
func goodTale(t *testing.T) watched {
	t.Helper()
	x := taleOf(t)
	for _, pair := range []string{"/.fee 0.25", "/.on true", "/.who 'me'", "/jobs:1.wage 10.00", "/jobs:2.wage 8.00", "/jobs:2/days:5.h 2.5", "/jobs:2/days:6.h 1.5", "/jobs:1/days:13.h 8.0",
		"/jobs:2/days:6/parts:7.q 'me'", "/jobs:2/days:6/parts:8.q 'me'", "/jobs:1/days:13/parts:14.q 'me'", "/cars:3.h 40", "/cars:4.h 7", "/cars:4/jobs:9.k true", "/cars:4/jobs:10.k true"} {
		c, v, _ := strings.Cut(pair, " ")
		x.set(c, v)
	}
	x.want("")
	return x
}

func (x watched) row(s string) api.Row {
	x.t.Helper()
	r, ok := path.Parse(x.l, s)
	if !ok {
		x.t.Fatal("no row", s)
	}
	return r
}

func (x watched) cell(s string) api.Cell {
	x.t.Helper()
	c, ok := path.ParseCell(x.l, s)
	if !ok {
		x.t.Fatal("no cell", s)
	}
	return c
}

// section is the number of a kid section of a row's.
func (x watched) section(at, name string) int {
	x.t.Helper()
	parent := x.row(at).Section
	n := slices.IndexFunc(x.l, func(s api.Sect) bool { return s.Parent == parent && s.Name == name })
	if n < 0 {
		x.t.Fatal("no section", name)
	}
	return n
}

// add puts rows behind those of their sections within a row.
func (x watched) add(at string, sections ...string) {
	x.t.Helper()
	for _, name := range sections {
		x.insert(at, name, len(x.Store().Rows(x.row(at), x.section(at, name))))
	}
}

// These make a change that is not refused, and hold what it comes to against the chapter's words.
func (x watched) insert(at, section string, place int) api.Edited {
	x.t.Helper()
	return x.ok(api.Edit{Kind: api.EdInsert, Row: x.row(at), Section: x.section(at, section), Place: place})
}

func (x watched) delete(r string) api.Edited {
	x.t.Helper()
	return x.ok(api.Edit{Kind: api.EdDelete, Row: x.row(r)})
}

func (x watched) move(r string, to int) api.Edited {
	x.t.Helper()
	return x.ok(api.Edit{Kind: api.EdMove, Row: x.row(r), Place: to})
}

func (x watched) set(s, v string) api.Edited {
	x.t.Helper()
	c := x.cell(s)
	return x.ok(api.Edit{Kind: api.EdSet, Row: c.Row, Item: c.Item, Value: valueOf(v)})
}

func (x watched) clear(s string) api.Edited {
	x.t.Helper()
	c := x.cell(s)
	return x.ok(api.Edit{Kind: api.EdClear, Row: c.Row, Item: c.Item})
}

func (x watched) ok(e api.Edit) api.Edited {
	x.t.Helper()
	got := x.do(e)
	if got.Err != api.OK {
		x.t.Fatal("Do", e, got.Err)
	}
	return got
}

// do makes a change, and holds what it comes to, and all that is told behind it.
func (x watched) do(e api.Edit) api.Edited {
	x.t.Helper()
	was, asked := x.Store(), x.Asked()
	got, want := x.Do(e), x.with.Do(e)
	if !sameEdited(got, want) {
		x.t.Fatalf("Do of %v: %v, not %v", e, got, want)
	}
	if n, said := x.Asked()-asked, int64(saidAsked(was, x.Store(), e, got)); n != said {
		x.t.Fatalf("Asked: %d more, not %d, by %v: %v in %s", n, said, e, got, was.Schema().Text())
	}
	x.hold()
	return got
}

func sameEdited(a, b api.Edited) bool {
	return a.Err == b.Err && a.Row == b.Row && a.Place == b.Place && slices.Equal(a.Reckoned, b.Reckoned) && slices.Equal(a.Changed, b.Changed)
}

// saidAsked is how many cells a change asks, by the chapter's words.
func saidAsked(was, now *store.Store, e api.Edit, got api.Edited) int {
	if got.Err != api.OK {
		return 0
	}
	many := 0
	for _, c := range got.Changed {
		if e.Kind != api.EdInsert || c.Row != got.Row {
			many++
		}
	}
	switch c := cell(e.Row, e.Item); e.Kind {
	case api.EdInsert:
		many += len(now.Schema().Sects()[got.Row.Section].Items)
	case api.EdSet, api.EdClear:
		before, _ := was.Get(c)
		if behind, _ := now.Get(c); before != behind {
			many++
		}
	}
	return many
}

// linesOf is what a model says of a return's lines and checks.
func linesOf(x *store.Store) map[api.Cell]api.Value {
	m, e := model.New(x)
	if e != api.OK {
		panic(e)
	}
	return maps.Collect(m.All())
}

// hold holds all that is told against a model of the return, and against the incr that goes along: P22.1, P22.2, P22.4 and P22.5.
func (x watched) hold(names ...string) {
	x.t.Helper()
	now, asked := x.Store(), x.Asked()
	values := linesOf(now)
	want := rules.Faults(now, values, names...)
	got := x.Faults(names...)
	if !sameFaults(got, want) {
		x.t.Fatalf("Faults without %q:\n%s\nnot:\n%s\nin %s", names, x.text(got), x.text(want), now.Schema().Text())
	}
	if !slices.IsSortedFunc(got, rules.Compare) || x.Many(names...) != len(want) {
		x.t.Fatal("Many", x.Many(names...), got)
	}
	left := want
	for c, v := range values {
		f, ok := x.Fault(c, names...)
		n := slices.IndexFunc(left, func(f api.Fault) bool { return f.Cell == c })
		if ok != (n >= 0) || ok && !sameFault(f, left[n]) || !ok && !sameFault(f, api.Fault{}) {
			x.t.Fatalf("Fault of %v: %v %v, in %s", c, f, ok, x.text(want))
		}
		if told, e := x.Value(c); told != v || e != api.OK {
			x.t.Fatalf("Value of %v: %v %d, not %v", c, told, e, v)
		}
	}
	x.holdIncr(now)
	if x.Asked() != asked {
		x.t.Fatal("asking for faults is counted", asked, x.Asked())
	}
}

// holdIncr holds what is incr's.
func (x watched) holdIncr(now *store.Store) {
	x.t.Helper()
	other := x.with.Store()
	if !slices.Equal(slices.Collect(now.All()), slices.Collect(other.All())) || now.Next() != other.Next() || !store.Same(now.Plain(), other.Plain()) {
		x.t.Fatal("Store tells another return")
	}
	if x.Steps() != x.with.Steps() || x.Looked() != x.with.Looked() {
		x.t.Fatal("Steps, Looked:", x.Steps(), x.Looked(), x.with.Steps(), x.with.Looked())
	}
	for r := range now.All() {
		for section := range x.l {
			for item := range x.l[section].Items {
				got, e := x.Col(r, section, item)
				if want, wrong := x.with.Col(r, section, item); got != want || e != wrong {
					x.t.Fatal("Col", r, section, item, got, e, want, wrong)
				}
			}
		}
	}
}

// want holds Faults against texts, a line each.
func (x watched) want(text string, names ...string) {
	x.t.Helper()
	x.hold(names...)
	if told := x.text(x.Faults(names...)); told != lined(text) {
		x.t.Errorf("Faults without %q:\n%s\nnot:\n%s", names, told, lined(text))
	}
}

func (x watched) text(l []api.Fault) string {
	var lines []string
	for _, f := range l {
		lines = append(lines, rules.Text(x.l, f))
	}
	return strings.Join(lines, "\n")
}

// lined is a text's lines without the blanks around them.
func lined(s string) string {
	var lines []string
	for _, line := range strings.Split(s, "\n") {
		if line = strings.TrimSpace(line); line != "" {
			lines = append(lines, line)
		}
	}
	return strings.Join(lines, "\n")
}

// valueOf is the value that a text of the tests says: 'a' is a text, !2 an error.
func valueOf(s string) api.Value {
	switch {
	case s == "blank":
		return api.Value{}
	case s == "true", s == "false":
		return api.Value{Kind: api.VFlag, Flag: s == "true"}
	case strings.HasPrefix(s, "!"):
		n, err := strconv.Atoi(s[1:])
		if err != nil {
			panic(s)
		}
		return api.Value{Kind: api.VErr, Err: n}
	case strings.HasPrefix(s, "'"):
		return api.Value{Kind: api.VText, Text: s[1 : len(s)-1]}
	}
	d, e := dectext.Parse(s)
	if e != api.OK {
		panic(s)
	}
	return api.Value{Kind: api.VNum, Num: d}
}

func row(section int, ids ...int64) api.Row {
	r := api.Row{Section: section}
	copy(r.Ids[:], ids)
	return r
}

func cell(r api.Row, item int) api.Cell { return api.Cell{Row: r, Item: item} }

// away are rows that are not in taleOf, or may not be at all.
func away() []api.Row {
	return []api.Row{
		row(jobs, 99), row(jobs, 15), row(days, 2, 99), row(parts, 2, 6, 99), row(cars, 12), row(yards, 1), // never given
		row(jobs, 5), row(cars, 1), row(jobs, 3), row(days, 3, 5), row(days, 1, 5), row(days, 2, 13), row(parts, 2, 5, 7), row(parts, 1, 6, 7), row(carJobs, 3, 9), row(carJobs, 2, 5), // of another section or row
		row(root.Section, 1), row(jobs), row(jobs, 0, 1), row(jobs, 1, 13), row(days, 2), row(days, 2, 6, 7), row(parts, 2, 6), // too many ids, too few
		row(jobs, -1), row(jobs, math.MinInt64), row(jobs, math.MaxInt64), row(jobs, api.MaxId+1),
		row(-1), row(-1, 1), row(-2, 2, 5), row(7), row(7, 1), row(7, 2, 6), row(99, 2, 6, 7), row(math.MinInt, 1), row(math.MaxInt, 1), row(math.MinInt), row(math.MaxInt),
	}
}

// sameFaults tells whether two lists are the same, At by At; it does not ask rules.Same.
func sameFaults(a, b []api.Fault) bool { return slices.EqualFunc(a, b, sameFault) }

func sameFault(a, b api.Fault) bool {
	return a.Kind == b.Kind && a.Err == b.Err && a.Cell == b.Cell && slices.Equal(a.At, b.At)
}

func cloned(l []api.Fault) []api.Fault {
	l = slices.Clone(l)
	for n := range l {
		l[n].At = slices.Clone(l[n].At)
	}
	return l
}

// seen is all that one tells of itself.
type seen struct {
	rows                 []api.Row
	next                 int64
	plain                api.Inst
	values               map[api.Cell]api.Value
	faults               []api.Fault
	asked, steps, looked int64
}

func look(w *watch.Watch) seen {
	x := w.Store()
	s := seen{rows: slices.Collect(x.All()), next: x.Next(), plain: x.Plain(), faults: w.Faults(), asked: w.Asked(), steps: w.Steps(), looked: w.Looked(), values: map[api.Cell]api.Value{}}
	for _, r := range s.rows {
		for item := range x.Schema().Sects()[r.Section].Items {
			s.values[cell(r, item)], _ = w.Value(cell(r, item))
		}
	}
	return s
}

func alike(a, b seen) bool {
	return slices.Equal(a.rows, b.rows) && a.next == b.next && store.Same(a.plain, b.plain) && maps.Equal(a.values, b.values) &&
		sameFaults(a.faults, b.faults) && a.asked == b.asked && a.steps == b.steps && a.looked == b.looked
}
