package model_test

import (
	"slices"
	"strings"
	"testing"

	"excise/api"
	"excise/model"
	"excise/schema"
	"excise/store"
)

// The chapter's own example, with its fields set and cleared.
func TestExample(t *testing.T) {
	x := retOf(t, "return r { field a : amount 2 ; section k max 9 { field b : amount 2 ; } line t : amount 2 half_up = sum ( k . b ) * a ; line s : amount 2 up = sum ( k . b ) ; }")
	x.want(x.model(), "/.s", "0.00", "/.t", "!3")
	x.put("/.a", "2.00")
	x.want(x.model(), "/.s", "0.00", "/.t", "0.00")
	x.add("/", "k", "k")
	x.put("/k:1.b", "3.00", "/k:2.b", "4.00")
	x.want(x.model(), "/.a", "2.00", "/.s", "7.00", "/.t", "14.00", "/k:1.b", "3.00", "/k:2.b", "4.00")
	x.put("/k:1.b", "blank")
	x.want(x.model(), "/.s", "4.00", "/.t", "8.00", "/k:1.b", "blank")
	x.put("/k:2.b", "blank")
	x.want(x.model(), "/.s", "0.00", "/.t", "0.00", "/k:1.b", "blank", "/k:2.b", "blank")
	x.put("/.a", "blank", "/k:2.b", "1.00")
	x.want(x.model(), "/.a", "blank", "/.s", "1.00", "/.t", "!3")
}

// P18.1: fields, lines and checks of each section.
func TestValue(t *testing.T) {
	x := taleOf(t)
	x.want(x.model(),
		"/.fee", "0.1250", "/.f", "true", "/.who", "'me'", "/.total", "42.00", "/.due", "5.25", "/.some", "true", "/.said", "'me'",
		"/jobs:1.wage", "10.00", "/jobs:1.hours", "4.0", "/jobs:1.pay", "40.00", "/jobs:1.short", "true",
		"/jobs:2.wage", "8.00", "/jobs:2.hours", "0.0", "/jobs:2.pay", "0.00", "/jobs:2.short", "true",
		"/jobs:1/days:5.h", "2.5", "/jobs:1/days:5.own", "3.125", "/jobs:1/days:5.most", "!4",
		"/jobs:1/days:6.h", "1.5", "/jobs:1/days:6.own", "1.875", "/jobs:1/days:6.most", "!3",
		"/jobs:1/days:6/parts:7.share", "6.81", "/jobs:1/days:6/parts:7.p", "40", "/jobs:1/days:6/parts:7.named", "true",
		"/jobs:1/days:6/parts:8.share", "!3", "/jobs:1/days:6/parts:8.p", "blank", "/jobs:1/days:6/parts:8.named", "!3",
		"/jobs:1/days:6/parts:9.share", "17.81", "/jobs:1/days:6/parts:9.p", "120", "/jobs:1/days:6/parts:9.named", "false",
		"/cars:3.h", "blank", "/cars:3.twice", "!3", "/cars:4.h", "3.0", "/cars:4.twice", "6.1")
	x.put("/jobs:1/days:6/parts:8.p", "0", "/.f", "false", "/.fee", "blank")
	x.want(x.model(),
		"/.due", "!3", "/.some", "!3", "/.said", "'nobody'", "/.total", "42.00",
		"/jobs:1/days:5.own", "5.000", "/jobs:1/days:6.own", "3.000", "/jobs:1/days:6.most", "19",
		"/jobs:1/days:6/parts:7.share", "8.50", "/jobs:1/days:6/parts:8.share", "4.50", "/jobs:1/days:6/parts:9.share", "19.50",
		"/jobs:1/days:6/parts:7.named", "false", "/cars:4.twice", "!3")
}

func TestNewOfNothing(t *testing.T) {
	for _, x := range []*store.Store{nil, {}, new(store.Store)} {
		if m, e := model.New(x); m != nil || e != api.ErrMade {
			t.Error("New", m, e)
		}
	}
}

// R5: a model that no call made.
func TestNotMade(t *testing.T) {
	for _, m := range []*model.Model{nil, {}, new(model.Model)} {
		for _, r := range []api.Row{root, row(1, 1), row(-1), row(99, 5)} {
			for _, n := range append([]int{0, 1}, noPlaces...) {
				if v, e := m.Value(cell(r, n)); v != (api.Value{}) || e != api.ErrMade {
					t.Error("Value", v, e)
				}
				if env, e := m.Env(cell(r, n)); env.Names != nil || env.Cols != nil || env.Tables != nil || e != api.ErrMade {
					t.Error("Env", env, e)
				}
				for _, item := range append([]int{0, 1}, noPlaces...) {
					if s, e := m.Col(r, n, item); s != (api.Sum{}) || e != api.ErrMade {
						t.Error("Col", s, e)
					}
				}
			}
		}
		if len(allOf(m)) > 0 || m.Many() != 0 || len(m.Plain()) > 0 {
			t.Error("All, Many, Plain", allOf(m), m.Many(), m.Plain())
		}
	}
}

// TestNoItems: a definition may have no items at all; a model of it is made all the same.
func TestNoItems(t *testing.T) {
	x := retOf(t, "return r { section k max 9 { } }")
	x.add("/", "k")
	m := x.model()
	if m.Many() != 0 || len(allOf(m)) > 0 || len(m.Plain()) > 0 {
		t.Error("All, Many, Plain", allOf(m), m.Many(), m.Plain())
	}
	noValue(t, m, api.ErrArg, cell(root, 0), cell(row(1, 1), 0))
	noValue(t, m, api.ErrNone, cell(row(1, 2), 0))
	noCol(t, m, api.ErrArg, root, 1, 0)
	noCol(t, m, api.ErrNone, row(1, 2), 1, 0)
}

// noValue: Value and Env answer an error, and nothing else.
func noValue(t *testing.T, m *model.Model, want api.Errno, cells ...api.Cell) {
	t.Helper()
	for _, c := range cells {
		if v, e := m.Value(c); v != (api.Value{}) || e != want {
			t.Errorf("Value of %v: %v %d, not %d", c, v, e, want)
		}
		noEnv(t, m, want, c)
	}
}

func noEnv(t *testing.T, m *model.Model, want api.Errno, c api.Cell) {
	t.Helper()
	if env, e := m.Env(c); env.Names != nil || env.Cols != nil || env.Tables != nil || e != want {
		t.Errorf("Env of %v: %v %d, not %d", c, env, e, want)
	}
}

func noCol(t *testing.T, m *model.Model, want api.Errno, at api.Row, section, item int) {
	t.Helper()
	if s, e := m.Col(at, section, item); s != (api.Sum{}) || e != want {
		t.Errorf("Col of %v, %d, %d: %v %d, not %d", at, section, item, s, e, want)
	}
}

// awayRows are rows that are not in taleOf from which the day 5 is gone.
func awayRows() []api.Row {
	list := []api.Row{
		row(1, 10), row(1, 99), row(2, 1, 10), row(3, 1, 6, 10), row(4, 10), // never given
		row(2, 1, 5), row(3, 1, 5, 5), // gone
		row(1), row(2, 1), row(3, 1, 6), row(4), row(1, 0, 1), // without an own id
		row(1, 3), row(1, 5), row(4, 1), row(2, 1, 7), row(3, 1, 6, 5), // of another section's id
		row(2, 2, 6), row(2, 3, 6), row(3, 2, 6, 7), row(3, 1, 5, 7), // within another row
		row(0, 1), row(0, 0, 0, 1), row(1, 1, 6), row(1, 1, 0, 7), row(2, 1, 6, 7), row(4, 4, 4), // with ids behind the own one
		row(2, 6), row(2, 0, 6), row(3, 7), row(3, 0, 0, 7),
		row(1, -1), row(4, api.MaxId+1), row(2, 1, -6),
	}
	for _, n := range append([]int{5, 6, 64}, noPlaces...) {
		list = append(list, row(n), row(n, 1), row(n, 1, 6), row(n, 1, 6, 7))
	}
	return list
}

// P18.1 to P18.3: rows that are not there, whatever the item is.
func TestNoRow(t *testing.T) {
	x := taleOf(t)
	if e := x.Delete(row(2, 1, 5)); e != api.OK {
		t.Fatal("Delete", e)
	}
	m := x.model()
	for _, r := range awayRows() {
		for _, n := range append([]int{0, 1, 2, 3, 4, 7, 64}, noPlaces...) {
			noValue(t, m, api.ErrNone, cell(r, n))
			for _, item := range append([]int{0, 1, 64}, noPlaces...) {
				noCol(t, m, api.ErrNone, r, n, item)
			}
		}
	}
}

// P18.1, P18.2: items that are not there, and Env of fields.
func TestNoItem(t *testing.T) {
	x := taleOf(t)
	m := x.model()
	many := map[int]int{0: 7, 1: 4, 2: 3, 3: 3, 4: 2}
	for _, r := range slices.Collect(x.All()) {
		for _, n := range append([]int{0, 1, 63, 64}, noPlaces...) {
			if n < 0 || n > 60 {
				noValue(t, m, api.ErrArg, cell(r, n))
			} else {
				noValue(t, m, api.ErrArg, cell(r, many[r.Section]+n))
			}
		}
	}
	for _, s := range []string{"/.fee", "/.f", "/.who", "/jobs:1.wage", "/jobs:1/days:5.h", "/jobs:1/days:6/parts:8.p", "/cars:3.h"} {
		if _, e := m.Value(x.cell(s)); e != api.OK {
			t.Error("Value of a field", s, e)
		}
		noEnv(t, m, api.ErrArg, x.cell(s))
	}
}

// P18.1: a model is what the return was, whatever is done to that behind New.
func TestStays(t *testing.T) {
	for n, change := range []func(x ret){
		func(x ret) { x.put("/.fee", "1.0000", "/jobs:1/days:6.h", "9.9") },
		func(x ret) { x.put("/.fee", "blank", "/.who", "'you'", "/jobs:1/days:6/parts:9.p", "blank") },
		func(x ret) { x.add("/", "jobs", "cars"); x.add("/jobs:2", "days"); x.add("/jobs:1/days:6", "parts") },
		func(x ret) { x.Insert(root, 4, 0); x.put("/cars:10.h", "7.0") },
		func(x ret) { x.Delete(row(1, 1)) },
		func(x ret) { x.Delete(row(3, 1, 6, 8)); x.Delete(row(4, 4)) },
		func(x ret) { x.Move(row(1, 1), 1); x.Move(row(3, 1, 6, 7), 2) },
		func(x ret) { *x.Store = store.Store{} },
	} {
		x := taleOf(t)
		m := x.model()
		before, all := look(t, m, x.l), m.All()
		change(x)
		if now := look(t, m, x.l); !alike(before, now) {
			t.Errorf("change %d of the return changed its model from %v to %v", n, before, now)
		}
		var list []told
		for c, v := range all {
			list = append(list, told{c, v})
		}
		if !slices.Equal(list, before.all) {
			t.Errorf("change %d of the return changed All: %v", n, list)
		}
		noValue(t, m, api.ErrNone, cell(row(1, 10), 0), cell(row(4, 10), 0), cell(row(2, 2, 12), 0))
		if n < 7 && alike(before, look(t, x.model(), x.l)) {
			t.Errorf("change %d of the return is none", n)
		}
	}
}

// TestSchemaGone: nor does it ask the schema again.
func TestSchemaGone(t *testing.T) {
	x := taleOf(t)
	m := x.model()
	before := look(t, m, x.l)
	*x.Schema() = schema.Schema{}
	if now := look(t, m, x.l); !alike(before, now) {
		t.Errorf("a schema that is gone changed its model to %v", now)
	}
	if _, e := model.New(x.Store); e != api.ErrMade {
		t.Error("New of a return whose schema is gone", e)
	}
}

// R3: New changes nothing in the return, and two models of one are each other's equals.
func TestNewChangesNothing(t *testing.T) {
	x := taleOf(t)
	plain, rows, next := x.Plain(), slices.Collect(x.All()), x.Next()
	a, b := look(t, x.model(), x.l), look(t, x.model(), x.l)
	if !alike(a, b) {
		t.Errorf("two models of one return: %v and %v", a, b)
	}
	if !store.Same(plain, x.Plain()) || !slices.Equal(rows, slices.Collect(x.All())) || next != x.Next() {
		t.Error("New changed the return")
	}
}

// Words: what a name means: an item of the cell's own row, of the row around it, of ones further out; x is one in a, b and c each, y in all.
func TestNames(t *testing.T) {
	x := retOf(t, `return r { field y : amount 0 ;
		section a max 9 { field x : amount 0 ; line v : amount 0 up = x + y ;
			section d max 9 { field z : amount 0 ; line w : amount 0 up = x * 100 + z * 10 + y ;
				section e max 9 { line all : amount 0 up = w * 1000 + x * 100 + z * 10 + y ; } } }
		section b max 9 { field x : amount 0 ; line v : amount 0 up = x - y ;
			section d max 9 { line z : amount 0 up = x ; line w : amount 0 up = z + y ; } }
		section c max 9 { line x : amount 0 up = 7 ; line v : amount 0 up = x * y ; } }`)
	x.add("/", "a", "a", "b", "b", "c") // 1 to 5
	x.add("/a:1", "d")                  // 6
	x.add("/a:2", "d", "d")             // 7, 8
	x.add("/b:3", "d")                  // 9
	x.add("/b:4", "d")                  // 10
	x.add("/a:2/d:8", "e", "e")         // 11, 12
	x.add("/a:1/d:6", "e")              // 13
	x.put("/.y", "9", "/a:1.x", "1", "/a:2.x", "2", "/b:3.x", "3", "/b:4.x", "4", "/a:1/d:6.z", "6", "/a:2/d:7.z", "7", "/a:2/d:8.z", "8")
	m := x.model()
	x.want(m,
		"/a:1.v", "10", "/a:2.v", "11", "/b:3.v", "-6", "/b:4.v", "-5", "/c:5.v", "63",
		"/a:1/d:6.w", "169", "/a:2/d:7.w", "279", "/a:2/d:8.w", "289",
		"/b:3/d:9.z", "3", "/b:3/d:9.w", "12", "/b:4/d:10.z", "4", "/b:4/d:10.w", "13",
		"/a:2/d:8/e:11.all", "289289", "/a:2/d:8/e:12.all", "289289", "/a:1/d:6/e:13.all", "169169")
	x.wantEnv(m, "/a:2/d:8/e:12.all", "w 289 x 2 y 9 z 8", nil)
	x.wantEnv(m, "/b:4/d:10.w", "z 4 y 9", nil)
	x.wantEnv(m, "/c:5.v", "x 7 y 9", nil)
}

// TestLinesReadLines: down and up through the sections, in an order other than that in which they stand.
func TestLinesReadLines(t *testing.T) {
	x := retOf(t, `return r {
		line last : amount 0 up = third + sum ( k . back ) ;
		line third : amount 0 up = second * 2 ;
		check good = last = 66 ;
		line second : amount 0 up = sum ( k . up2 ) ;
		section k max 9 {
			line back : amount 0 up = third + own ;
			line up2 : amount 0 up = up1 + 1 ;
			line own : amount 0 up = max ( j . deep ) ;
			line up1 : amount 0 up = start * b ;
			field b : amount 0 ;
			section j max 9 { line deep : amount 0 up = deeper + second ; line deeper : amount 0 up = up2 ; }
		}
		line start : amount 0 up = a + 1 ;
		field a : amount 0 ; }`)
	x.put("/.a", "1")
	x.add("/", "k", "k")
	x.add("/k:1", "j")
	x.add("/k:2", "j", "j")
	x.put("/k:1.b", "1", "/k:2.b", "2")
	// start 2; up1 2, 4; up2 3, 5; second 8; third 16; deep 11, 13; back 27, 29; last 72
	x.want(x.model(), "/.start", "2", "/k:1.up1", "2", "/k:2.up1", "4", "/k:1.up2", "3", "/k:2.up2", "5", "/.second", "8", "/.third", "16",
		"/k:1/j:3.deeper", "3", "/k:2/j:5.deeper", "5", "/k:1/j:3.deep", "11", "/k:2/j:4.deep", "13", "/k:2/j:5.deep", "13",
		"/k:1.own", "11", "/k:2.own", "13", "/k:1.back", "27", "/k:2.back", "29", "/.last", "72", "/.good", "false")
	x.put("/.a", "0", "/k:1.b", "3")
	// start 1; up1 3, 2; up2 4, 3; second 7; third 14; deep 11, 10; back 25, 24; last 63
	x.want(x.model(), "/.second", "7", "/.third", "14", "/k:1.back", "25", "/k:2.back", "24", "/.last", "63")
	x.put("/.a", "blank")
	x.want(x.model(), "/.start", "!3", "/k:1.up1", "!3", "/k:2.own", "!3", "/.last", "!3", "/.good", "!3")
}

// TestGoingOn: errors, blanks and values that do not fit go on from cell to cell.
func TestGoingOn(t *testing.T) {
	x := retOf(t, `return r {
		field a : amount 0 ; field f : flag ; field s : text ;
		line copy : amount 2 half_up = if ( true , a , 0 ) ;
		line more : amount 2 half_up = copy + 1 ;
		line flagged : flag = if ( true , f , f ) ;
		line texted : text = if ( true , s , "" ) ;
		line gone : flag = blank ( copy ) ;
		check holds = if ( true , flagged , flagged ) ;
		check both = flagged and more > 0 ;
		check same = texted = "x" ;
		line high : amount 2 half_up = a * 1 ;
		line higher : amount 0 half_up = high ;
		line low : amount 0 up = scale ( a ) ;
		line lower : flag = if ( low > 0 , true , false ) ;
		line least : amount 0 up = min ( k . b ) ;
		line first : amount 0 up = low + least ;
		line other : amount 0 up = least + low ;
		line saved : amount 0 up = if ( blank ( a ) , 5 , low ) ;
		section k max 9 { field b : amount 0 ; line c : amount 0 up = higher + b ; }
		line counted : amount 0 up = count ( k . c ) ; line summed : amount 0 up = sum ( k . c ) ;
		table scale { from 5 base 5 rate 1 ; } }`)
	x.want(x.model(), "/.copy", "blank", "/.more", "!3", "/.flagged", "blank", "/.texted", "blank", "/.gone", "true", "/.holds", "blank", "/.both", "!3", "/.same", "!3",
		"/.high", "!3", "/.higher", "!3", "/.low", "!3", "/.lower", "!3", "/.least", "!4", "/.first", "!3", "/.other", "!4", "/.saved", "5", "/.counted", "0", "/.summed", "0")
	x.add("/", "k", "k")
	x.put("/.a", "4", "/.f", "false", "/.s", "'x'", "/k:1.b", "1")
	x.want(x.model(), "/.copy", "4.00", "/.more", "5.00", "/.flagged", "false", "/.texted", "'x'", "/.gone", "false", "/.holds", "false", "/.both", "false", "/.same", "true",
		"/.high", "4.00", "/.higher", "4", "/.low", "!5", "/.lower", "!5", "/.least", "1", "/.first", "!5", "/.other", "!5", "/.saved", "!5",
		"/k:1.c", "5", "/k:2.c", "!3", "/.counted", "1", "/.summed", "!3")
	// The greatest number has no room for two more digits.
	x.put("/.a", most, "/k:2.b", "0")
	x.want(x.model(), "/.a", most, "/.copy", "!1", "/.more", "!1", "/.gone", "!1", "/.holds", "false", "/.both", "!1", "/.high", "!1", "/.higher", "!1", "/.low", most,
		"/.lower", "true", "/.least", "0", "/.first", most, "/k:1.c", "!1", "/k:2.c", "!1", "/.counted", "0", "/.summed", "!1")
}

// TestRounding: a line's value is at its own scale, by its own policy.
func TestRounding(t *testing.T) {
	for policy, want := range map[string]string{"half_up": "-2.5", "half_even": "-2.4", "down": "-2.4", "up": "-2.5", "floor": "-2.5"} {
		x := retOf(t, "return r { field a : amount 3 ; line l : amount 1 "+policy+" = a ; line m : amount 4 "+policy+" = l * 1 ; line n : amount 18 "+policy+" = a ; }")
		x.put("/.a", "-2.450")
		x.want(x.model(), "/.l", want, "/.m", want+"000", "/.n", "-2.450000000000000000")
	}
}

// TestFull: a return of as many rows as there may be, with as many lines and columns as have room.
func TestFull(t *testing.T) {
	var b strings.Builder
	var names []string
	b.WriteString("return r { field a : amount 0 ;")
	for n := range 25 {
		name := string(rune('b' + n))
		names = append(names, name+"x")
		b.WriteString("line " + name + "s : amount 0 up = sum ( k . " + name + "x ) + max ( k . " + name + "x ) + rows ( k ) ;")
	}
	b.WriteString("section k max 1024 { section j max 3 { line deep : amount 0 up = " + strings.Join(names, " + ") + " ; }")
	for _, name := range names {
		b.WriteString("line " + name + " : amount 0 up = a + rows ( j ) ;")
	}
	x := retOf(t, b.String()+"} }")
	x.put("/.a", "5")
	for range 1024 {
		x.Insert(root, 1, 0)
	}
	for _, r := range x.Rows(root, 1) {
		for range 3 {
			x.Insert(r, 2, 0)
		}
	}
	m := x.model()
	if x.Len() != api.MaxAll || m.Many() != 26+1024*25+3*1024 {
		t.Fatal("Len, Many", x.Len(), m.Many())
	}
	// Each k has 5 + 3 of each line, so that the sum is 8 * 1024.
	x.want(m, "/.bs", "9224", "/.zs", "9224", "/k:1.bx", "8", "/k:1024.zx", "8")
	for _, r := range []api.Row{row(2, 1, 4096), row(2, 1024, 1025)} {
		if v, e := m.Value(cell(r, 0)); v != of("200") || e != api.OK {
			t.Error("Value", r, v, e)
		}
	}
}
