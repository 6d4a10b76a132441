package model_test

import (
	"maps"
	"math"
	"slices"
	"strconv"
	"strings"
	"testing"

	"excise/api"
	"excise/dectext"
	"excise/model"
	"excise/path"
	"excise/schema"
	"excise/store"
	"excise/value"
)

const most = "115792089237316195423570985008687907853269984665640564039457584007913129639935" // 2^256 - 1

// tale is the definition that most tests take. Sections: 1 jobs, 2 its days, 3 their parts, 4 cars. Lines stand ahead of what they read; h is an item of days, and another one of cars.
const tale = `return r {
	line due : amount 2 half_up = total * fee ;
	field fee : amount 4 ;
	line total : amount 2 half_up = sum ( jobs . pay ) + rows ( cars ) ;
	check some = rows ( jobs ) > 0 and due >= 0 ;
	field f : flag ;
	field who : text needed ;
	line said : text = if ( f , who , "nobody" ) ;
	section jobs max 9 {
		check short = count ( days . h ) <= 2 ;
		field wage : amount 2 ;
		line pay : amount 2 down = hours * wage ;
		line hours : amount 1 up = sum ( days . h ) ;
		section days max 9 {
			line most : amount 0 floor = max ( parts . share ) ;
			field h : amount 1 ;
			line own : amount 3 half_even = if ( f , h * wage * fee , h + h ) ;
			section parts max 9 {
				line share : amount 2 half_up = scale ( p ) + own * h ;
				field p : amount 0 ;
				check named = who != "" and said = who and p <= total ;
			}
		}
	}
	section cars max 5 {
		field h : amount 1 ;
		line twice : amount 1 down = h * 2 + fee ;
	}
	table scale { from 0 base 0 rate 0.1 ; from 100 base 10 rate 0.25 ; }
	table flat { from - 5 base 1 rate 0 ; }
}`

var (
	root     = api.Row{}
	noPlaces = []int{-1, -2, math.MinInt, math.MaxInt}
)

// A ret is a return that a test fills, by texts.
type ret struct {
	*store.Store
	t *testing.T
	l []api.Sect
}

func retOf(t *testing.T, text string) ret {
	t.Helper()
	s, at, e := schema.New(text)
	if e != api.OK {
		t.Fatalf("schema.New: %d at %.80q", e, text[at:])
	}
	x, e := store.New(s)
	if e != api.OK {
		t.Fatal("store.New", e)
	}
	return ret{x, t, s.Sects()}
}

// taleOf is a return of tale, with rows in each section, and a blank in some.
func taleOf(t *testing.T) ret {
	t.Helper()
	x := retOf(t, tale)
	x.put("/.fee", "0.1250", "/.f", "true", "/.who", "'me'")
	x.add("/", "jobs", "jobs", "cars", "cars")             // 1 to 4
	x.add("/jobs:1", "days", "days")                       // 5, 6
	x.add("/jobs:1/days:6", "parts", "parts", "parts")     // 7 to 9
	x.put("/jobs:1.wage", "10.00", "/jobs:2.wage", "8.00") // no days in 2
	x.put("/jobs:1/days:5.h", "2.5", "/jobs:1/days:6.h", "1.5")
	x.put("/jobs:1/days:6/parts:7.p", "40", "/jobs:1/days:6/parts:9.p", "120")
	x.put("/cars:4.h", "3.0")
	return x
}

func (x ret) row(s string) api.Row {
	x.t.Helper()
	r, ok := path.Parse(x.l, s)
	if !ok {
		x.t.Fatal("no row", s)
	}
	return r
}

func (x ret) cell(s string) api.Cell {
	x.t.Helper()
	c, ok := path.ParseCell(x.l, s)
	if !ok {
		x.t.Fatal("no cell", s)
	}
	return c
}

// section is the number of a kid section of a row's.
func (x ret) section(at api.Row, name string) int {
	x.t.Helper()
	n := slices.IndexFunc(x.l, func(s api.Sect) bool { return s.Parent == at.Section && s.Name == name })
	if n < 0 {
		x.t.Fatal("no section", name)
	}
	return n
}

// add puts rows behind those of their sections within a row.
func (x ret) add(at string, sections ...string) {
	x.t.Helper()
	for _, name := range sections {
		r := x.row(at)
		n := x.section(r, name)
		if _, e := x.Insert(r, n, len(x.Rows(r, n))); e != api.OK {
			x.t.Fatal("Insert", at, name, e)
		}
	}
}

// put gives cells values, or takes them away: a cell and a value's text one behind the other.
func (x ret) put(pairs ...string) {
	x.t.Helper()
	for n := 0; n < len(pairs); n += 2 {
		c, v := x.cell(pairs[n]), of(pairs[n+1])
		e := x.Clear(c)
		if v.Kind != api.VBlank {
			e = x.Set(c, v)
		}
		if e != api.OK {
			x.t.Fatal("Set", pairs[n], pairs[n+1], e)
		}
	}
}

func (x ret) model() *model.Model {
	x.t.Helper()
	m, e := model.New(x.Store)
	if m == nil || e != api.OK {
		x.t.Fatal("New", e)
	}
	return m
}

// want holds what cells of a model come to against texts: a cell and a value's text one behind the other.
func (x ret) want(m *model.Model, pairs ...string) {
	x.t.Helper()
	for n := 0; n < len(pairs); n += 2 {
		if v, e := m.Value(x.cell(pairs[n])); v != of(pairs[n+1]) || e != api.OK {
			x.t.Errorf("Value of %s: %s %d, not %s", pairs[n], value.Text(v), e, pairs[n+1])
		}
	}
}

// of is the value that a text of the tests says: 'a' is a text, !2 an error.
func of(s string) api.Value {
	switch {
	case s == "blank":
		return api.Value{}
	case s == "true", s == "false":
		return api.Value{Kind: api.VFlag, Flag: s == "true"}
	case strings.HasPrefix(s, "!"):
		n, err := strconv.Atoi(s[1:])
		if err != nil {
			panic(s)
		}
		return api.Value{Kind: api.VErr, Err: n}
	case strings.HasPrefix(s, "'"):
		return api.Value{Kind: api.VText, Text: s[1 : len(s)-1]}
	}
	d, e := dectext.Parse(s)
	if e != api.OK {
		panic(s)
	}
	return api.Value{Kind: api.VNum, Num: d}
}

func row(section int, ids ...int64) api.Row {
	r := api.Row{Section: section}
	copy(r.Ids[:], ids)
	return r
}

func cell(r api.Row, item int) api.Cell { return api.Cell{Row: r, Item: item} }

// told is a cell and its value.
type told struct {
	cell api.Cell
	v    api.Value
}

func allOf(m *model.Model) []told {
	var list []told
	for c, v := range m.All() {
		list = append(list, told{c, v})
	}
	return list
}

// seen is all that a model tells of itself.
type seen struct {
	all   []told
	many  int
	plain []api.Value
	envs  []api.Env
	sums  []api.Sum
}

// look asks a model of all cells and columns of its return, as that is at that time.
func look(t *testing.T, m *model.Model, l []api.Sect) seen {
	t.Helper()
	s := seen{all: allOf(m), many: m.Many(), plain: m.Plain()}
	for _, c := range s.all {
		if v, e := m.Value(c.cell); v != c.v || e != api.OK {
			t.Fatal("All and Value", c, v, e)
		}
		env, e := m.Env(c.cell)
		if (e == api.OK) != (l[c.cell.Row.Section].Items[c.cell.Item].Kind != api.ItField) {
			t.Fatal("Env", c, e)
		}
		s.envs = append(s.envs, env)
		if c.cell.Item > 0 {
			continue
		}
		for section := range l {
			for item := range l[section].Items {
				if sum, e := m.Col(c.cell.Row, section, item); e == api.OK {
					s.sums = append(s.sums, sum)
				}
			}
		}
	}
	return s
}

func alike(a, b seen) bool {
	return slices.Equal(a.all, b.all) && a.many == b.many && slices.Equal(a.plain, b.plain) && slices.EqualFunc(a.envs, b.envs, sameEnv) && slices.Equal(a.sums, b.sums)
}

func sameEnv(a, b api.Env) bool {
	return maps.Equal(a.Names, b.Names) && maps.Equal(a.Cols, b.Cols) && sameTables(a.Tables, b.Tables)
}

func sameTables(a, b []api.Table) bool {
	return slices.EqualFunc(a, b, func(a, b api.Table) bool { return a.Name == b.Name && slices.Equal(a.Steps, b.Steps) })
}
