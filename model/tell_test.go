package model_test

import (
	"slices"
	"strings"
	"testing"

	"excise/api"
	"excise/model"
	"excise/path"
	"excise/store"
)

// P18.3: rows as store.All tells them, those within a row ahead of the row behind it; in each row items as they stand.
func TestAll(t *testing.T) {
	x := taleOf(t)
	x.Move(row(1, 2), 0)
	x.Move(row(3, 1, 6, 9), 0)
	m := x.model()
	var cells []api.Cell
	for _, of := range []struct {
		r    string
		many int
	}{{"/", 7}, {"/jobs:2", 4}, {"/jobs:1", 4}, {"/jobs:1/days:5", 3}, {"/jobs:1/days:6", 3}, {"/jobs:1/days:6/parts:9", 3}, {"/jobs:1/days:6/parts:7", 3}, {"/jobs:1/days:6/parts:8", 3}, {"/cars:3", 2}, {"/cars:4", 2}} {
		for item := range of.many {
			cells = append(cells, cell(x.row(of.r), item))
		}
	}
	list := allOf(m)
	var values []api.Value
	for n, c := range list {
		values = append(values, c.v)
		if v, e := m.Value(c.cell); v != c.v || e != api.OK {
			t.Error("All and Value", c, v, e)
		}
		if n >= len(cells) || c.cell != cells[n] {
			t.Errorf("the cell %d of All: %v", n, c.cell)
		}
	}
	if len(list) != len(cells) || m.Many() != len(cells) || !slices.Equal(m.Plain(), values) {
		t.Error("All, Many, Plain", len(list), m.Many(), m.Plain())
	}
	wantPlain(t, m, "5.25", "0.1250", "42.00", "true", "true", "'me'", "'me'",
		"true", "8.00", "0.00", "0.0",
		"true", "10.00", "40.00", "4.0",
		"!4", "2.5", "3.125",
		"!3", "1.5", "1.875",
		"17.81", "120", "false", "6.81", "40", "true", "!3", "blank", "!3",
		"blank", "!3", "3.0", "6.1")
}

func wantPlain(t *testing.T, m *model.Model, values ...string) {
	t.Helper()
	var want []api.Value
	for _, s := range values {
		want = append(want, of(s))
	}
	if got := m.Plain(); !slices.Equal(got, want) || m.Many() != len(want) {
		t.Errorf("Plain, Many: %v %d, not %v", got, m.Many(), want)
	}
}

// P18.3, R3: All may be broken off at any cell, and be gone through again.
func TestAllStops(t *testing.T) {
	m := taleOf(t).model()
	all, want := m.All(), allOf(m)
	for n := range len(want) {
		var got []told
		for c, v := range all {
			got = append(got, told{c, v})
			if len(got) == n+1 {
				break
			}
		}
		if !slices.Equal(got, want[:n+1]) {
			t.Errorf("All, broken off behind %d cells: %v", n+1, got)
		}
		asked := 0
		all(func(api.Cell, api.Value) bool { asked++; return asked <= n })
		if asked != n+1 {
			t.Errorf("All goes on behind %d cells: %d", n+1, asked)
		}
	}
	for range 2 {
		var got []told
		for c, v := range all {
			got = append(got, told{c, v})
			for range all { // one within the other
				break
			}
		}
		if !slices.Equal(got, want) {
			t.Error("All again", got)
		}
	}
	// It tells what was there when it was asked for, even if its model is another one since.
	*m = model.Model{}
	var got []told
	for c, v := range all {
		got = append(got, told{c, v})
	}
	if !slices.Equal(got, want) || len(allOf(m)) > 0 {
		t.Error("All of a model that is gone", got)
	}
}

// P18.3: returns without rows, and with rows within rows.
func TestMany(t *testing.T) {
	x := retOf(t, "return r { field a : amount 0 ; check c = a > 0 ; section k max 9 { field b : amount 1 ; section j max 9 { line l : amount 1 up = b + 1 ; line m : amount 0 up = rows ( i ) ; section i max 9 { } } } section o max 9 { } }")
	wantPlain(t, x.model(), "blank", "!3")
	x.add("/", "o", "o") // rows without items have no cells
	wantPlain(t, x.model(), "blank", "!3")
	x.add("/", "k", "k") // 3, 4
	x.put("/.a", "1", "/k:4.b", "2.5")
	wantPlain(t, x.model(), "1", "true", "blank", "2.5")
	x.add("/k:4", "j", "j") // 5, 6
	x.add("/k:4/j:6", "i", "i", "i")
	x.add("/k:3", "j")
	wantPlain(t, x.model(), "1", "true", "blank", "!3", "0", "2.5", "3.5", "0", "3.5", "3")
	x.Delete(row(1, 4))
	wantPlain(t, x.model(), "1", "true", "blank", "!3", "0")
}

// P18.5: two returns with the same Plain whose rows came in another order of time.
func TestIdsSayNothing(t *testing.T) {
	x, y := taleOf(t), retOf(t, tale)
	y.add("/", "cars", "jobs", "jobs", "cars") // 1 to 4
	y.Move(row(1, 3), 0)
	y.put("/cars:4.h", "3.0", "/jobs:2.wage", "8.00", "/jobs:3.wage", "1.00")
	y.add("/jobs:3", "days", "days", "days") // 5 to 7
	y.Move(row(2, 3, 7), 0)
	y.Delete(row(2, 3, 6))
	y.add("/jobs:3/days:5", "parts", "parts", "parts") // 8 to 10
	y.Move(row(3, 3, 5, 8), 2)
	y.put("/jobs:3/days:5/parts:8.p", "120", "/jobs:3/days:5/parts:9.p", "40", "/jobs:3/days:5/parts:10.p", "1")
	y.put("/jobs:3/days:7.h", "2.5", "/jobs:3/days:5.h", "1.5", "/jobs:3.wage", "10.00", "/jobs:3/days:5/parts:10.p", "blank")
	y.put("/.who", "'me'", "/.f", "true", "/.fee", "0.1250")
	wantSamePlain(t, x, y)
}

// wantSamePlain holds two returns with the same Plain against each other: cell by cell the values are the same.
func wantSamePlain(t *testing.T, x, y ret) {
	t.Helper()
	if a, b := x.Plain(), y.Plain(); !store.Same(a, b) {
		t.Fatalf("the returns are not the same: %v and %v", a, b)
	}
	a, b := x.model(), y.model()
	if !slices.Equal(a.Plain(), b.Plain()) || a.Many() != b.Many() {
		t.Errorf("Plain of the same returns: %v and %v", a.Plain(), b.Plain())
	}
	list, other := allOf(a), allOf(b)
	for n := range list {
		if n >= len(other) || list[n].v != other[n].v || list[n].cell.Row.Section != other[n].cell.Row.Section || list[n].cell.Item != other[n].cell.Item {
			t.Fatalf("the cell %d of the same returns: %v and %v", n, list[n], other[n:])
		}
	}
}

// P18.6: what no cell reads changes nothing but its own value.
func TestNotRead(t *testing.T) {
	x := taleOf(t)
	for _, c := range []struct{ cell, v, changed string }{
		{"/jobs:2.wage", "9.00", "/jobs:2.wage"}, // no days: the pay stays 0.00
		{"/jobs:2.wage", "blank", "/jobs:2.wage /jobs:2.pay /.total /.due /.some /jobs:1/days:6/parts:7.named /jobs:1/days:6/parts:9.named"},
		{"/jobs:2.wage", "9.00", "/jobs:2.wage /jobs:2.pay /.total /.due /.some /jobs:1/days:6/parts:7.named /jobs:1/days:6/parts:9.named"},
		{"/cars:3.h", "1.0", "/cars:3.h /cars:3.twice"},
		{"/jobs:1/days:6/parts:8.p", "1", "/jobs:1/days:6/parts:8.p /jobs:1/days:6/parts:8.share /jobs:1/days:6/parts:8.named /jobs:1/days:6.most"},
	} {
		before := allOf(x.model())
		x.put(c.cell, c.v)
		for n, now := range allOf(x.model()) {
			s := path.CellText(x.l, now.cell)
			if now.cell != before[n].cell || (now.v != before[n].v) != slices.Contains(strings.Fields(c.changed), s) {
				t.Errorf("%s set to %s: %s is %v, was %v", c.cell, c.v, s, now.v, before[n].v)
			}
		}
	}
}
