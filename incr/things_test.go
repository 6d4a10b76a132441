package incr_test

import (
	"maps"
	"math"
	"slices"
	"strconv"
	"strings"
	"testing"

	"excise/api"
	"excise/dectext"
	"excise/incr"
	"excise/path"
	"excise/schema"
	"excise/store"
)

// tale is the definition that most tests take. Sections: 1 jobs, 2 their days, 3 these' parts, 4 cars, 5 yards. Lines stand ahead of what they read; h is an item of days, and another one of cars.
const tale = `return r {
	line due : amount 2 half_up = total * fee ;
	field fee : amount 4 ;
	line total : amount 2 half_up = sum ( jobs . pay ) + rows ( cars ) ;
	check some = rows ( jobs ) > 0 and due >= 0 ;
	field f : flag ;
	field who : text needed ;
	line said : text = if ( f , who , "nobody" ) ;
	line far : amount 0 up = max ( cars . twice ) + rows ( cars ) ;
	section jobs max 3 {
		check short = count ( days . h ) <= 2 ;
		field wage : amount 2 ;
		line pay : amount 2 down = hours * wage ;
		line hours : amount 1 up = sum ( days . h ) ;
		line least : amount 0 floor = min ( days . own ) ;
		section days max 9 {
			line most : amount 0 floor = max ( parts . share ) ;
			field h : amount 1 ;
			line own : amount 3 half_even = if ( f , h * wage * fee , h + h ) ;
			check many = rows ( parts ) < 3 ;
			section parts max 9 {
				line share : amount 2 half_up = scale ( p ) + own * h ;
				field p : amount 0 ;
				check named = who != "" and said = who and p <= total ;
			}
		}
	}
	section cars max 5 {
		field h : amount 1 ;
		line twice : amount 1 down = h * 2 ;
	}
	section yards max 9 { field g : amount 0 ; }
	table scale { from 0 base 0 rate 0.1 ; from 100 base 10 rate 0.25 ; }
}`

const (
	jobs  = 1
	days  = 2
	parts = 3
	cars  = 4
	yards = 5
)

var (
	root     = api.Row{}
	noPlaces = []int{-1, -2, 99, math.MinInt, math.MaxInt}
)

// A kept return is one that a test changes, by texts.
type kept struct {
	*incr.Incr
	t *testing.T
	l []api.Sect
}

func schemaOf(t *testing.T, text string) *schema.Schema {
	t.Helper()
	s, at, e := schema.New(text)
	if e != api.OK {
		t.Fatalf("schema.New: %d at %.80q", e, text[at:])
	}
	return s
}

func keptOf(t *testing.T, text string) kept {
	t.Helper()
	s := schemaOf(t, text)
	m, e := incr.New(s)
	if m == nil || e != api.OK {
		t.Fatal("New", e)
	}
	return kept{m, t, s.Sects()}
}

func keptFrom(t *testing.T, x *store.Store) kept {
	t.Helper()
	m, e := incr.From(x)
	if m == nil || e != api.OK {
		t.Fatal("From", e)
	}
	return kept{m, t, x.Schema().Sects()}
}

// taleOf is a return of tale, with rows in each section but yards, and a blank in some.
func taleOf(t *testing.T) kept {
	t.Helper()
	x := keptOf(t, tale)
	x.set("/.fee", "0.1250")
	x.set("/.f", "true")
	x.set("/.who", "'me'")
	for _, at := range []string{"/ jobs", "/ jobs", "/ cars", "/ cars", "/jobs:1 days", "/jobs:1 days", "/jobs:1/days:6 parts", "/jobs:1/days:6 parts", "/jobs:1/days:6 parts"} {
		r, section, _ := strings.Cut(at, " ")
		x.insert(r, section, len(x.Store().Rows(x.row(r), x.section(r, section)))) // 1 to 9
	}
	x.set("/jobs:1.wage", "10.00")
	x.set("/jobs:2.wage", "8.00")
	x.set("/jobs:1/days:5.h", "2.5")
	x.set("/jobs:1/days:6.h", "1.5")
	x.set("/jobs:1/days:6/parts:7.p", "40")
	x.set("/jobs:1/days:6/parts:9.p", "120")
	x.set("/cars:4.h", "3.0")
	return x
}

func (x kept) row(s string) api.Row {
	x.t.Helper()
	r, ok := path.Parse(x.l, s)
	if !ok {
		x.t.Fatal("no row", s)
	}
	return r
}

func (x kept) cell(s string) api.Cell {
	x.t.Helper()
	c, ok := path.ParseCell(x.l, s)
	if !ok {
		x.t.Fatal("no cell", s)
	}
	return c
}

// cells are those of a text, with blanks between them.
func (x kept) cells(s string) []api.Cell {
	x.t.Helper()
	var l []api.Cell
	for _, word := range strings.Fields(s) {
		l = append(l, x.cell(word))
	}
	return l
}

// text is cells as a text.
func (x kept) text(l []api.Cell) string {
	var words []string
	for _, c := range l {
		words = append(words, path.CellText(x.l, c))
	}
	return strings.Join(words, " ")
}

// section is the number of a kid section of a row's.
func (x kept) section(at, name string) int {
	x.t.Helper()
	parent := x.row(at).Section
	n := slices.IndexFunc(x.l, func(s api.Sect) bool { return s.Parent == parent && s.Name == name })
	if n < 0 {
		x.t.Fatal("no section", name)
	}
	return n
}

// These make a change that is not refused, and hold what it comes to against the chapter's words.
func (x kept) insert(at, section string, place int) api.Edited {
	x.t.Helper()
	return x.ok(api.Edit{Kind: api.EdInsert, Row: x.row(at), Section: x.section(at, section), Place: place})
}

func (x kept) delete(r string) api.Edited {
	x.t.Helper()
	return x.ok(api.Edit{Kind: api.EdDelete, Row: x.row(r)})
}

func (x kept) move(r string, to int) api.Edited {
	x.t.Helper()
	return x.ok(api.Edit{Kind: api.EdMove, Row: x.row(r), Place: to})
}

func (x kept) set(s, v string) api.Edited {
	x.t.Helper()
	c := x.cell(s)
	return x.ok(api.Edit{Kind: api.EdSet, Row: c.Row, Item: c.Item, Value: valueOf(v)})
}

func (x kept) clear(s string) api.Edited {
	x.t.Helper()
	c := x.cell(s)
	return x.ok(api.Edit{Kind: api.EdClear, Row: c.Row, Item: c.Item})
}

func (x kept) ok(e api.Edit) api.Edited {
	x.t.Helper()
	got := x.do(e)
	if got.Err != api.OK {
		x.t.Fatal("Do", e, got.Err)
	}
	return got
}

// want holds what a change came to against texts of cells.
func (x kept) want(got api.Edited, reckoned, changed string) {
	x.t.Helper()
	if !slices.Equal(got.Reckoned, x.cells(reckoned)) {
		x.t.Errorf("Reckoned: %s\nnot: %s", x.text(got.Reckoned), reckoned)
	}
	if !slices.Equal(got.Changed, x.cells(changed)) {
		x.t.Errorf("Changed: %s\nnot: %s", x.text(got.Changed), changed)
	}
}

// is holds what cells come to against texts: a cell and a value's text one behind the other.
func (x kept) is(pairs ...string) {
	x.t.Helper()
	for n := 0; n < len(pairs); n += 2 {
		if v, e := x.Value(x.cell(pairs[n])); v != valueOf(pairs[n+1]) || e != api.OK {
			x.t.Errorf("Value of %s: %v %d, not %s", pairs[n], v, e, pairs[n+1])
		}
	}
}

// valueOf is the value that a text of the tests says: 'a' is a text, !2 an error.
func valueOf(s string) api.Value {
	switch {
	case s == "blank":
		return api.Value{}
	case s == "true", s == "false":
		return api.Value{Kind: api.VFlag, Flag: s == "true"}
	case strings.HasPrefix(s, "!"):
		n, err := strconv.Atoi(s[1:])
		if err != nil {
			panic(s)
		}
		return api.Value{Kind: api.VErr, Err: n}
	case strings.HasPrefix(s, "'"):
		return api.Value{Kind: api.VText, Text: s[1 : len(s)-1]}
	}
	d, e := dectext.Parse(s)
	if e != api.OK {
		panic(s)
	}
	return api.Value{Kind: api.VNum, Num: d}
}

func row(section int, ids ...int64) api.Row {
	r := api.Row{Section: section}
	copy(r.Ids[:], ids)
	return r
}

func cell(r api.Row, item int) api.Cell { return api.Cell{Row: r, Item: item} }

// seen is all that one tells of itself.
type seen struct {
	rows          []api.Row
	next          int64
	plain         api.Inst
	values        []api.Value
	sums          []api.Sum
	lines         map[api.Cell]api.Value
	steps, looked int64
}

func look(m *incr.Incr) seen {
	x := m.Store()
	s := seen{rows: slices.Collect(x.All()), next: x.Next(), plain: x.Plain(), lines: m.Lines(), steps: m.Steps(), looked: m.Looked()}
	l := x.Schema().Sects()
	for _, r := range s.rows {
		for item := range l[r.Section].Items {
			v, _ := m.Value(cell(r, item))
			s.values = append(s.values, v)
		}
		for section := range l {
			for item := range l[section].Items {
				if sum, e := m.Col(r, section, item); e == api.OK {
					s.sums = append(s.sums, sum)
				}
			}
		}
	}
	return s
}

func alike(a, b seen) bool {
	return slices.Equal(a.rows, b.rows) && a.next == b.next && store.Same(a.plain, b.plain) && slices.Equal(a.values, b.values) &&
		slices.Equal(a.sums, b.sums) && maps.Equal(a.lines, b.lines) && a.steps == b.steps && a.looked == b.looked
}
