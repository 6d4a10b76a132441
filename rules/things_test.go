package rules_test

import (
	"math"
	"slices"
	"strconv"
	"strings"
	"testing"

	"excise/api"
	"excise/dectext"
	"excise/path"
	"excise/rules"
	"excise/schema"
	"excise/store"
)

// tale is the definition that most tests take. Sections: 1 jobs, 2 their days, 3 these' parts, 4 cars, 5 their jobs, 6 yards.
const tale = `return r {
	line t : amount 2 half_up = a * 2 ;
	field a : amount 2 needed ;
	check c = t > 0 ;
	field note : text ;
	field who : text needed ;
	section jobs max 9 {
		check ok = p ;
		field p : flag needed ;
		line x : amount 0 up = sum ( days . h ) ;
		field free : amount 1 ;
		section days max 9 {
			field h : amount 1 needed ;
			line own : amount 1 up = h + a ;
			section parts max 9 {
				line share : text = q ;
				field q : text needed ;
				check few = q != "" ;
			}
		}
	}
	section cars max 5 {
		field h : amount 0 needed ;
		section jobs max 5 { field k : flag needed ; check sure = k ; }
	}
	section yards max 9 { }
}`

const (
	jobs    = 1
	days    = 2
	parts   = 3
	cars    = 4
	carJobs = 5
	yards   = 6
)

var (
	root     = api.Row{}
	noPlaces = []int{-1, -2, 99, math.MinInt, math.MaxInt}
)

// A ret is a return that a test fills, by texts, and what its lines say.
type ret struct {
	*store.Store
	t     *testing.T
	l     []api.Sect
	lines map[api.Cell]api.Value
}

func schemaOf(t *testing.T, text string) *schema.Schema {
	t.Helper()
	s, at, e := schema.New(text)
	if e != api.OK {
		t.Fatalf("schema.New: %d at %.80q", e, text[at:])
	}
	return s
}

func retOf(t *testing.T, text string) ret {
	t.Helper()
	s := schemaOf(t, text)
	x, e := store.New(s)
	if e != api.OK {
		t.Fatal("store.New", e)
	}
	return ret{x, t, s.Sects(), map[api.Cell]api.Value{}}
}

// taleOf is a return of tale with rows in each section; all fields are blank, and lines say nothing.
func taleOf(t *testing.T) ret {
	t.Helper()
	x := retOf(t, tale)
	x.add("/", "jobs", "jobs", "cars", "cars") // 1 to 4
	x.add("/jobs:2", "days", "days")           // 5, 6
	x.add("/jobs:2/days:6", "parts", "parts")  // 7, 8
	x.add("/cars:4", "jobs", "jobs")           // 9, 10
	x.add("/", "yards", "yards")               // 11, 12
	x.add("/jobs:1", "days")                   // 13
	x.add("/jobs:1/days:13", "parts")          // 14
	return x
}

func (x ret) row(s string) api.Row {
	x.t.Helper()
	r, ok := path.Parse(x.l, s)
	if !ok {
		x.t.Fatal("no row", s)
	}
	return r
}

func (x ret) cell(s string) api.Cell {
	x.t.Helper()
	c, ok := path.ParseCell(x.l, s)
	if !ok {
		x.t.Fatal("no cell", s)
	}
	return c
}

// add puts rows behind those of their sections within a row.
func (x ret) add(at string, sections ...string) {
	x.t.Helper()
	for _, name := range sections {
		r := x.row(at)
		n := slices.IndexFunc(x.l, func(s api.Sect) bool { return s.Parent == r.Section && s.Name == name })
		if _, e := x.Insert(r, n, len(x.Rows(r, n))); e != api.OK {
			x.t.Fatal("Insert", at, name, e)
		}
	}
}

// put gives fields values, or takes them away: a cell and a value's text one behind the other.
func (x ret) put(pairs ...string) {
	x.t.Helper()
	for n := 0; n < len(pairs); n += 2 {
		c, v := x.cell(pairs[n]), valueOf(pairs[n+1])
		e := x.Clear(c)
		if v.Kind != api.VBlank {
			e = x.Set(c, v)
		}
		if e != api.OK {
			x.t.Fatal("Set", pairs[n], pairs[n+1], e)
		}
	}
}

// say lets lines say values: a cell and a value's text one behind the other.
func (x ret) say(pairs ...string) {
	x.t.Helper()
	for n := 0; n < len(pairs); n += 2 {
		x.lines[x.cell(pairs[n])] = valueOf(pairs[n+1])
	}
}

// want holds Faults against texts, a line each, and each fault against Of.
func (x ret) want(text string, names ...string) {
	x.t.Helper()
	got := rules.Faults(x.Store, x.lines, names...)
	if told := x.text(got); told != lined(text) {
		x.t.Errorf("Faults without %v:\n%s\nnot:\n%s", names, told, lined(text))
	}
	for _, f := range got {
		v, e := x.Get(f.Cell)
		if e != api.OK {
			v = x.lines[f.Cell]
		}
		if g, ok := rules.Of(x.Store, f.Cell, v, names...); !ok || !rules.Same(f, g) {
			x.t.Errorf("Of %v: %v %v, not %v", f.Cell, g, ok, f)
		}
	}
}

func (x ret) text(l []api.Fault) string {
	var lines []string
	for _, f := range l {
		lines = append(lines, rules.Text(x.l, f))
	}
	return strings.Join(lines, "\n")
}

// lined is a text's lines without the blanks around them.
func lined(s string) string {
	var lines []string
	for _, line := range strings.Split(s, "\n") {
		if line = strings.TrimSpace(line); line != "" {
			lines = append(lines, line)
		}
	}
	return strings.Join(lines, "\n")
}

// valueOf is the value that a text of the tests says: 'a' is a text, !2 an error.
func valueOf(s string) api.Value {
	switch {
	case s == "blank":
		return api.Value{}
	case s == "true", s == "false":
		return api.Value{Kind: api.VFlag, Flag: s == "true"}
	case strings.HasPrefix(s, "!"):
		n, err := strconv.Atoi(s[1:])
		if err != nil {
			panic(s)
		}
		return api.Value{Kind: api.VErr, Err: n}
	case strings.HasPrefix(s, "'"):
		return api.Value{Kind: api.VText, Text: s[1 : len(s)-1]}
	}
	d, e := dectext.Parse(s)
	if e != api.OK {
		panic(s)
	}
	return api.Value{Kind: api.VNum, Num: d}
}

func row(section int, ids ...int64) api.Row {
	r := api.Row{Section: section}
	copy(r.Ids[:], ids)
	return r
}

func cell(r api.Row, item int) api.Cell { return api.Cell{Row: r, Item: item} }

// away are rows that are not in taleOf, or may not be at all.
func away() []api.Row {
	return []api.Row{
		row(jobs, 99), row(jobs, 15), row(days, 2, 99), row(parts, 2, 6, 99), row(cars, 12), row(yards, 1), // never given
		row(jobs, 5), row(cars, 1), row(jobs, 3), row(days, 3, 5), row(days, 1, 5), row(days, 2, 13), row(parts, 2, 5, 7), row(parts, 1, 6, 7), row(carJobs, 3, 9), row(carJobs, 2, 5), // of another section or row
		row(root.Section, 1), row(jobs), row(jobs, 0, 1), row(jobs, 1, 13), row(days, 2), row(days, 2, 6, 7), row(parts, 2, 6), // too many ids, too few
		row(jobs, -1), row(jobs, math.MinInt64), row(jobs, math.MaxInt64), row(jobs, api.MaxId+1),
		row(-1), row(-1, 1), row(-2, 2, 5), row(7), row(7, 1), row(7, 2, 6), row(99, 2, 6, 7), row(math.MinInt, 1), row(math.MaxInt, 1), row(math.MinInt), row(math.MaxInt),
	}
}

// everyCell are all cells that are there.
func (x ret) everyCell() []api.Cell {
	var l []api.Cell
	for r := range x.All() {
		for n := range x.l[r.Section].Items {
			l = append(l, cell(r, n))
		}
	}
	return l
}

// sameFaults tells whether two lists are the same, At by At; it does not ask rules.Same.
func sameFaults(a, b []api.Fault) bool { return slices.EqualFunc(a, b, sameFault) }

func sameFault(a, b api.Fault) bool {
	return a.Kind == b.Kind && a.Err == b.Err && a.Cell == b.Cell && slices.Equal(a.At, b.At)
}

func cloned(l []api.Fault) []api.Fault {
	l = slices.Clone(l)
	for n := range l {
		l[n].At = slices.Clone(l[n].At)
	}
	return l
}
