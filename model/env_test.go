package model_test

import (
	"strconv"
	"strings"
	"testing"

	"excise/api"
	"excise/model"
	"excise/summary"
)

// sumOf is the summary of a column of a scale, of its values' texts.
func sumOf(scale int, values ...string) api.Sum {
	var parts []api.Sum
	for _, s := range values {
		parts = append(parts, summary.Of(of(s), scale))
	}
	return summary.Join(parts...)
}

func colOf(scale int, values ...string) api.Col {
	return api.Col{Sum: sumOf(scale, values...), Scale: scale}
}

// rowsOf is what is told where rows are just counted.
func rowsOf(many int) api.Col {
	return api.Col{Sum: api.Sum{Rows: many, Blank: many}}
}

// namesOf are names and their values' texts, one behind the other.
func namesOf(s string) map[string]api.Value {
	names := map[string]api.Value{}
	words := strings.Fields(s)
	for n := 0; n < len(words); n += 2 {
		names[words[n]] = of(words[n+1])
	}
	return names
}

// keyOf is the column that a text says: "k.b", or "k." where rows are just counted.
func keyOf(s string) api.ColKey {
	section, name, _ := strings.Cut(s, ".")
	return api.ColKey{Section: section, Name: name}
}

// wantEnv holds Names and Cols of a cell's Env against names and columns: those, and nothing else in them.
func (x ret) wantEnv(m *model.Model, s, names string, cols map[string]api.Col) {
	x.t.Helper()
	want := api.Env{Names: namesOf(names), Cols: map[api.ColKey]api.Col{}}
	for s, col := range cols {
		want.Cols[keyOf(s)] = col
	}
	env, e := m.Env(x.cell(s))
	env.Tables = nil
	if e != api.OK || !sameEnv(env, want) {
		x.t.Errorf("Env of %s: %v %d, not %v", s, env, e, want)
	}
}

// P18.2: Names of the tale's cells.
func TestEnvNames(t *testing.T) {
	x := taleOf(t)
	m := x.model()
	for s, names := range map[string]string{
		"/.due":                        "fee 0.1250 total 42.00",
		"/.said":                       "f true who 'me'",
		"/jobs:1.pay":                  "hours 4.0 wage 10.00",
		"/jobs:2.pay":                  "hours 0.0 wage 8.00",
		"/jobs:1/days:5.own":           "f true h 2.5 fee 0.1250 wage 10.00",
		"/jobs:1/days:6.own":           "f true h 1.5 fee 0.1250 wage 10.00",
		"/jobs:1/days:6/parts:8.share": "h 1.5 own 1.875 p blank",
		"/jobs:1/days:6/parts:9.named": "p 120 said 'me' total 42.00 who 'me'",
		"/cars:3.twice":                "h blank fee 0.1250",
		"/cars:4.twice":                "h 3.0 fee 0.1250",
	} {
		x.wantEnv(m, s, names, nil)
	}
	x.wantEnv(m, "/.some", "due 5.25", map[string]api.Col{"jobs.": rowsOf(2)})
	x.wantEnv(m, "/.total", "", map[string]api.Col{"jobs.pay": colOf(2, "40.00", "0.00"), "cars.": rowsOf(2)})
	x.wantEnv(m, "/jobs:1.short", "", map[string]api.Col{"days.h": colOf(1, "2.5", "1.5")})
	x.wantEnv(m, "/jobs:2.hours", "", map[string]api.Col{"days.h": colOf(1)})
	x.wantEnv(m, "/jobs:1/days:5.most", "", map[string]api.Col{"parts.share": colOf(2)})
	x.wantEnv(m, "/jobs:1/days:6.most", "", map[string]api.Col{"parts.share": colOf(2, "6.81", "!3", "17.81")})
}

// P18.2: Cols: one column that is read twice, two of one section, rows alone and beside a column, two sections, sections without rows.
func TestEnvCols(t *testing.T) {
	x := retOf(t, `return r { field a : amount 0 ;
		line one : amount 0 up = sum ( k . b ) ;
		line two : amount 0 up = sum ( k . b ) + max ( k . b ) * min ( k . b ) - count ( k . b ) ;
		line three : amount 0 up = rows ( k ) + sum ( k . l ) + count ( k . b ) + a ;
		line four : amount 0 up = rows ( k ) + rows ( k ) ;
		check five = count ( k . f ) = count ( k . s ) and rows ( n ) > sum ( n . b ) ;
		line six : amount 0 up = a ;
		section k max 9 { field b : amount 2 ; field f : flag ; field s : text ; line l : amount 3 down = b * 0.5 ;
			line own : amount 0 up = sum ( j . c ) + rows ( j ) ; section j max 9 { field c : amount 0 ; } }
		section n max 9 { field b : amount 0 ; } }`)
	type cols = map[string]api.Col
	m := x.model()
	x.wantEnv(m, "/.one", "", cols{"k.b": colOf(2)})
	x.wantEnv(m, "/.three", "a blank", cols{"k.b": colOf(2), "k.l": colOf(3), "k.": rowsOf(0)})
	x.wantEnv(m, "/.four", "", cols{"k.": rowsOf(0)})
	x.wantEnv(m, "/.five", "", cols{"k.f": colOf(0), "k.s": colOf(0), "n.": rowsOf(0), "n.b": colOf(0)})
	x.add("/", "k", "k", "k", "n", "n") // 1 to 5
	x.add("/k:2", "j", "j")             // 6, 7
	x.add("/k:3", "j")                  // 8
	x.put("/.a", "5", "/k:1.b", "3.00", "/k:3.b", "-4.25", "/k:2.f", "false", "/k:2.s", "'s'", "/k:3.s", "''", "/n:5.b", "9", "/k:2/j:7.c", "-1", "/k:3/j:8.c", "3")
	m = x.model()
	b := colOf(2, "3.00", "blank", "-4.25")
	x.wantEnv(m, "/.one", "", cols{"k.b": b})
	x.wantEnv(m, "/.two", "", cols{"k.b": b})
	x.wantEnv(m, "/.three", "a 5", cols{"k.b": b, "k.l": colOf(3, "1.500", "!3", "-2.125"), "k.": rowsOf(3)})
	x.wantEnv(m, "/.four", "", cols{"k.": rowsOf(3)})
	x.wantEnv(m, "/.five", "", cols{"k.f": colOf(0, "blank", "false", "blank"), "k.s": colOf(0, "blank", "'s'", "''"), "n.": rowsOf(2), "n.b": colOf(0, "blank", "9")})
	x.wantEnv(m, "/.six", "a 5", nil)
	x.wantEnv(m, "/k:3.l", "b -4.25", nil)
	x.wantEnv(m, "/k:1.own", "", cols{"j.": rowsOf(0), "j.c": colOf(0)})
	x.wantEnv(m, "/k:2.own", "", cols{"j.": rowsOf(2), "j.c": colOf(0, "blank", "-1")})
	x.wantEnv(m, "/k:3.own", "", cols{"j.": rowsOf(1), "j.c": colOf(0, "3")})
}

// P18.2: Tables are the definition's, all of them, whatever the cell reads; each asker's own.
func TestEnvTables(t *testing.T) {
	x := taleOf(t)
	m := x.model()
	tables := x.Schema().Def().Tables
	if len(tables) != 2 || len(tables[0].Steps) != 2 {
		t.Fatal("the tale's tables", tables)
	}
	for _, c := range allOf(m) {
		if x.l[c.cell.Row.Section].Items[c.cell.Item].Kind == api.ItField {
			continue
		}
		env, e := m.Env(c.cell)
		again, _ := m.Env(c.cell)
		if e != api.OK || !sameTables(env.Tables, tables) {
			t.Errorf("Tables of %v: %v %d", c.cell, env.Tables, e)
		}
		for n := range env.Tables {
			for i := range env.Tables[n].Steps {
				env.Tables[n].Steps[i] = api.Step{}
			}
			_ = append(env.Tables[n].Steps[:1], api.Step{})
			env.Tables[n].Name = "spoilt"
		}
		if !sameTables(again.Tables, tables) {
			t.Errorf("Tables of %v are shared: %v", c.cell, again.Tables)
		}
	}
	x = retOf(t, "return r { line a : amount 0 up = 1 ; }")
	if env, e := x.model().Env(cell(root, 0)); len(env.Names) > 0 || len(env.Cols) > 0 || len(env.Tables) > 0 || e != api.OK {
		t.Error("Env of what reads nothing", env, e)
	}
}

// R3: what is told shares nothing with the model.
func TestOwn(t *testing.T) {
	x := taleOf(t)
	m := x.model()
	before := look(t, m, x.l)
	plain := m.Plain()
	for n := range plain {
		plain[n] = of("'spoilt'")
	}
	_ = append(plain[:1], of("'spoilt'"))
	for _, c := range allOf(m) {
		env, e := m.Env(c.cell)
		if e != api.OK {
			continue
		}
		for name := range env.Names {
			env.Names[name] = of("'spoilt'")
		}
		for key := range env.Cols {
			env.Cols[key] = rowsOf(99)
		}
		env.Names["spoilt"], env.Cols[keyOf("spoilt.")] = of("1"), rowsOf(77)
		env.Tables[0].Steps[0].From, env.Tables[1].Name = of("-100").Num, "scale"
	}
	if now := look(t, m, x.l); !alike(before, now) {
		t.Errorf("a model was changed by what it told: %v", now)
	}
}

// P18.2: Col of fields and lines, over no rows, one and many, with blanks and errors among them.
func TestCol(t *testing.T) {
	x := taleOf(t)
	m := x.model()
	hold := func(at string, section, item int, want api.Sum) {
		t.Helper()
		if s, e := m.Col(x.row(at), section, item); s != want || e != api.OK {
			t.Errorf("Col of %s, %d, %d: %v %d, not %v", at, section, item, s, e, want)
		}
	}
	hold("/", 1, 1, sumOf(2, "10.00", "8.00"))
	hold("/", 1, 2, sumOf(2, "40.00", "0.00"))
	hold("/", 1, 3, sumOf(1, "4.0", "0.0"))
	hold("/", 4, 0, sumOf(1, "blank", "3.0"))
	hold("/", 4, 1, sumOf(1, "!3", "6.1"))
	hold("/jobs:1", 2, 0, sumOf(0, "!4", "!3"))
	hold("/jobs:1", 2, 1, sumOf(1, "2.5", "1.5"))
	hold("/jobs:1", 2, 2, sumOf(3, "3.125", "1.875"))
	hold("/jobs:2", 2, 1, api.Sum{})
	hold("/jobs:1/days:5", 3, 0, api.Sum{})
	hold("/jobs:1/days:6", 3, 0, sumOf(2, "6.81", "!3", "17.81"))
	hold("/jobs:1/days:6", 3, 1, sumOf(0, "40", "blank", "120"))
	x.Delete(x.row("/jobs:1/days:6/parts:8"))
	x.Delete(x.row("/cars:3"))
	m = x.model()
	hold("/jobs:1", 2, 0, sumOf(0, "!4", "17"))
	hold("/jobs:1/days:6", 3, 0, sumOf(2, "6.81", "17.81"))
	hold("/", 4, 1, sumOf(1, "6.1"))
}

// P18.2: Col at each scale, and of flags and texts.
func TestColScales(t *testing.T) {
	for scale := range api.MaxScale + 1 {
		s, digits := strconv.Itoa(scale), ""
		if scale > 0 {
			digits = "." + strings.Repeat("0", scale-1) + "7"
		}
		x := retOf(t, "return r { section k max 9 { field b : amount "+s+" ; line l : amount "+s+" half_up = - b ; field f : flag ; line g : text = if ( f , \"x\" , \"y\" ) ; } }")
		x.add("/", "k", "k", "k")
		x.put("/k:1.b", "3"+digits, "/k:3.b", "-1"+digits, "/k:2.f", "true")
		m := x.model()
		for item, want := range []api.Sum{
			sumOf(scale, "3"+digits, "blank", "-1"+digits),
			sumOf(scale, "-3"+digits, "!3", "1"+digits),
			sumOf(0, "blank", "true", "blank"),
			sumOf(0, "!3", "'x'", "!3"),
		} {
			if got, e := m.Col(root, 1, item); got != want || e != api.OK || got.Rows != 3 || item < 2 && !got.Some {
				t.Errorf("Col of item %d at the scale %d: %v %d, not %v", item, scale, got, e, want)
			}
		}
	}
}

// P18.2: sections that are no kid of the row's, items that are not there, and checks.
func TestNoCol(t *testing.T) {
	x := taleOf(t)
	m := x.model()
	kids := map[int][]int{0: {1, 4}, 1: {2}, 2: {3}}
	many := []int{7, 4, 3, 3, 2}
	checks := []int{3, 0, -1, 2, -1}
	for r := range x.All() {
		for _, section := range append([]int{0, 1, 2, 3, 4, 5, 16, 64}, noPlaces...) {
			isKid := false
			for _, kid := range kids[r.Section] {
				isKid = isKid || kid == section
			}
			for _, item := range append([]int{0, 1, 2, 3, 4, 6, 7, 64}, noPlaces...) {
				if !isKid || item < 0 || item >= many[section] || item == checks[section] {
					noCol(t, m, api.ErrArg, r, section, item)
				} else if _, e := m.Col(r, section, item); e != api.OK {
					t.Errorf("Col of %v, %d, %d: %d", r, section, item, e)
				}
			}
		}
	}
}
