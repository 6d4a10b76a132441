package deps_test

import (
	"math"
	"slices"
	"strings"
	"testing"

	"excise/api"
	"excise/deps"
	"excise/path"
	"excise/schema"
	"excise/store"
)

// tale is the definition that most tests take. Sections: 1 jobs, 2 their days, 3 these' parts, 4 jobs' notes, 5 cars, 6 yards, 7 their holes. Lines stand ahead of what they read; nothing over a section reads a section two steps further in.
const tale = `return r {
	line due : amount 2 half_up = total * fee ;
	field fee : amount 4 ;
	line total : amount 2 half_up = sum ( jobs . pay ) + rows ( cars ) + max ( jobs . pay ) ;
	check some = rows ( jobs ) > 0 and due >= 0 ;
	field f : flag ;
	line still : flag = true ;
	section jobs max 9 {
		check short = count ( days . h ) <= 2 ;
		field wage : amount 2 ;
		line pay : amount 2 down = hours * wage - hours ;
		line hours : amount 1 up = sum ( days . h ) ;
		section days max 9 {
			line most : amount 0 floor = max ( parts . share ) ;
			field h : amount 1 ;
			line own : amount 3 half_even = if ( f , h * wage * fee , h + h ) ;
			section parts max 9 {
				line share : amount 2 half_up = own * h ;
				field p : amount 0 ;
				check named = p <= total and fee > p ;
			}
		}
		section notes max 9 { field note : text ; }
	}
	section cars max 5 {
		field km : amount 1 ;
		line twice : amount 1 down = km * 2 + fee ;
		check less = twice <= total ;
	}
	section yards max 5 {
		field g : amount 0 ;
		line big : amount 0 up = 5 ;
		check deep = - rows ( holes ) < 0 and g < 9 and 1 < 2 ;
		section holes max 5 { field w : text ; }
	}
}`

const (
	jobs  = 1
	days  = 2
	parts = 3
	notes = 4
	cars  = 5
	yards = 6
	holes = 7
)

var (
	root     = api.Row{}
	noPlaces = []int{-1, -2, 99, math.MinInt, math.MaxInt}
)

// A ret is a return that a test fills, by texts.
type ret struct {
	*store.Store
	t *testing.T
	l []api.Sect
}

func retOf(t *testing.T, text string) ret {
	t.Helper()
	s, at, e := schema.New(text)
	if e != api.OK {
		t.Fatalf("schema.New: %d at %.80q", e, text[at:])
	}
	x, e := store.New(s)
	if e != api.OK {
		t.Fatal("store.New", e)
	}
	return ret{x, t, s.Sects()}
}

// taleRows are all rows of taleOf, in order: what was put in later stands ahead in days and cars.
const taleRows = "/ /jobs:1 /jobs:1/days:6 /jobs:1/days:6/parts:8 /jobs:1/days:6/parts:9 /jobs:1/days:5 /jobs:2 /jobs:2/days:7 /jobs:2/days:7/parts:10 /jobs:2/notes:11 /cars:4 /cars:3"

// taleOf is a return of tale, with rows in each section but yards.
func taleOf(t *testing.T) ret {
	t.Helper()
	x := retOf(t, tale)
	x.add(jobs, 0, "/")
	x.add(jobs, 1, "/")
	x.add(cars, 0, "/", "/")
	x.add(days, 0, "/jobs:1", "/jobs:1", "/jobs:2")
	x.add(parts, 0, "/jobs:1/days:6")
	x.add(parts, 1, "/jobs:1/days:6")
	x.add(parts, 0, "/jobs:2/days:7")
	x.add(notes, 0, "/jobs:2")
	var rows []string
	for r := range x.All() {
		rows = append(rows, path.Text(x.l, r))
	}
	if got := strings.Join(rows, " "); got != taleRows {
		t.Fatal("tale has the rows", got)
	}
	return x
}

// add puts a row to a place of a section within each of some rows.
func (x ret) add(section, place int, at ...string) {
	x.t.Helper()
	for _, s := range at {
		if _, e := x.Insert(x.row(s), section, place); e != api.OK {
			x.t.Fatal("Insert", s, section, place, e)
		}
	}
}

func (x ret) row(s string) api.Row {
	x.t.Helper()
	r, ok := path.Parse(x.l, s)
	if !ok {
		x.t.Fatal("no row", s)
	}
	return r
}

func (x ret) cell(s string) api.Cell {
	x.t.Helper()
	c, ok := path.ParseCell(x.l, s)
	if !ok {
		x.t.Fatal("no cell", s)
	}
	return c
}

// cells are those of a text, with blanks between them.
func (x ret) cells(s string) []api.Cell {
	x.t.Helper()
	var l []api.Cell
	for _, word := range strings.Fields(s) {
		l = append(l, x.cell(word))
	}
	return l
}

// text is cells as a text.
func (x ret) text(l []api.Cell) string {
	var words []string
	for _, c := range l {
		words = append(words, path.CellText(x.l, c))
	}
	return strings.Join(words, " ")
}

// want holds cells that are told against a text.
func (x ret) want(what string, got []api.Cell, want string) {
	x.t.Helper()
	if !slices.Equal(got, x.cells(want)) {
		x.t.Errorf("%s: %s\nnot: %s", what, x.text(got), want)
	}
}

// each holds a call's answers against texts: a cell, and what is told of it, one behind the other.
func (x ret) each(what string, call func(*store.Store, api.Cell) []api.Cell, pairs ...string) {
	x.t.Helper()
	for n := 0; n < len(pairs); n += 2 {
		x.want(what+" "+pairs[n], call(x.Store, x.cell(pairs[n])), pairs[n+1])
	}
}

func row(section int, ids ...int64) api.Row {
	r := api.Row{Section: section}
	copy(r.Ids[:], ids)
	return r
}

func cell(r api.Row, item int) api.Cell { return api.Cell{Row: r, Item: item} }

// everyCell is each cell of a return, fields too, in the order of rows.
func (x ret) everyCell() []api.Cell {
	var l []api.Cell
	for r := range x.All() {
		for n := range x.l[r.Section].Items {
			l = append(l, cell(r, n))
		}
	}
	return l
}

// seen is all that deps tells of a return.
type seen struct {
	lists [][]api.Cell
	ranks []int
}

func look(x ret) seen {
	every := x.everyCell()
	s := seen{lists: [][]api.Cell{deps.Cells(x.Store), deps.Sort(x.Store, every...), deps.Dirty(x.Store, every...)}}
	for _, c := range every {
		s.lists = append(s.lists, deps.Reads(x.Store, c), deps.Users(x.Store, c), deps.Dirty(x.Store, c))
		s.ranks = append(s.ranks, deps.Rank(x.Store, c))
	}
	for r := range x.All() {
		s.lists = append(s.lists, deps.Own(x.Store, r))
		for section := range x.l {
			s.lists = append(s.lists, deps.Over(x.Store, r, section))
		}
	}
	return s
}

func alike(a, b seen) bool {
	return slices.EqualFunc(a.lists, b.lists, slices.Equal) && slices.Equal(a.ranks, b.ranks)
}
