package path_test

import (
	"math"
	"reflect"
	"slices"
	"testing"

	"excise/api"
	"excise/path"
)

// example has the chapter's sections, and more: beside each other, as deep as may be, and one without items.
//
//	0 root   1 jobs (root)   2 days (jobs)   3 hours (days)   4 notes (jobs)   5 homes (root)   6 rooms (homes)
func example() []api.Sect {
	return []api.Sect{
		{Parent: -1, Depth: 1, Items: items("a", "b", "c")},
		{Parent: 0, Depth: 2, Name: "jobs", Max: 5, Items: items("pay")},
		{Parent: 1, Depth: 3, Name: "days", Max: 5, Items: items("h", "k")},
		{Parent: 2, Depth: 4, Name: "hours", Max: 5, Items: items("m")},
		{Parent: 1, Depth: 3, Name: "notes", Max: 5},
		{Parent: 0, Depth: 2, Name: "homes", Max: 5, Items: items("rent")},
		{Parent: 5, Depth: 3, Name: "rooms", Max: 5, Items: items("size")},
	}
}

func items(names ...string) []api.Item {
	var l []api.Item
	for n, name := range names {
		l = append(l, api.Item{Name: name, Kind: api.ItField + n%3})
	}
	return l
}

func row(section int, ids ...int64) api.Row {
	r := api.Row{Section: section}
	copy(r.Ids[:], ids)
	return r
}

// goodRows are rows of each section of the example, with the least and the greatest id at each place.
func goodRows() []api.Row {
	return []api.Row{
		row(0),
		row(1, 3), row(1, 1), row(1, api.MaxId),
		row(2, 3, 7), row(2, 1, 1), row(2, api.MaxId, 1), row(2, 1, api.MaxId),
		row(3, 3, 7, 9), row(3, 1, 1, 1), row(3, api.MaxId, api.MaxId, api.MaxId), row(3, 5, 5, 5),
		row(4, 3, 7), row(4, 3, 8),
		row(5, 3), row(5, 4),
		row(6, 3, 7), row(6, 4, 7),
	}
}

// badRows are rows that may not be, of the example.
func badRows() []api.Row {
	var l []api.Row
	for _, section := range []int{math.MinInt, -2, -1, 7, 8, math.MaxInt} {
		l = append(l, row(section), row(section, 1), row(section, 1, 2), row(section, 1, 2, 3))
	}
	for _, r := range []api.Row{row(0), row(1, 3), row(2, 3, 7), row(3, 3, 7, 9), row(4, 3, 7), row(5, 3), row(6, 3, 7)} {
		used := example()[r.Section].Depth - 1
		for place := range r.Ids {
			wrong := []int64{math.MinInt64, -api.MaxId, -1, api.MaxId + 1, math.MaxInt64}
			if place < used {
				wrong = append(wrong, 0)
			} else {
				wrong = append(wrong, 1, 2, api.MaxId)
			}
			for _, id := range wrong {
				x := r
				x.Ids[place] = id
				l = append(l, x)
			}
		}
	}
	return l
}

// wantRefused holds what every call answers of a row that may not be.
func wantRefused(t *testing.T, l []api.Sect, r api.Row) {
	t.Helper()
	if e := path.Check(l, r); e != api.ErrPath {
		t.Errorf("Check of %v: %v", r, e)
	}
	for _, item := range []int{-1, 0, 1} {
		c := api.Cell{Row: r, Item: item}
		if e, s := path.CheckCell(l, c), path.CellText(l, c); e != api.ErrPath || s != "?" {
			t.Errorf("the cell %v: %v %q", c, e, s)
		}
	}
	if id := path.Id(l, r); id != 0 {
		t.Errorf("Id of %v: %d", r, id)
	}
	if p, ok := path.Parent(l, r); ok || p != (api.Row{}) {
		t.Errorf("Parent of %v: %v %v", r, p, ok)
	}
	for section := -1; section <= len(l); section++ {
		if k, e := path.Kid(l, r, section, 1); e != api.ErrPath || k != (api.Row{}) {
			t.Errorf("Kid of %v: %v %v", r, k, e)
		}
		if a, ok := path.Around(l, r, section); ok != (section == r.Section) || ok && a != r || !ok && a != (api.Row{}) {
			t.Errorf("Around of %v in %d: %v %v", r, section, a, ok)
		}
	}
	if s := path.Text(l, r); s != "?" {
		t.Errorf("Text of %v: %q", r, s)
	}
	for _, x := range append(goodRows(), r) {
		if path.Within(l, r, x) || path.Within(l, x, r) {
			t.Errorf("Within of %v and %v", r, x)
		}
	}
}

func TestExamples(t *testing.T) {
	l := []api.Sect{
		{Parent: -1, Depth: 1},
		{Parent: 0, Depth: 2, Name: "jobs", Max: 5},
		{Parent: 1, Depth: 3, Name: "days", Max: 5, Items: items("h")},
	}
	r := row(2, 3, 7)
	if s := path.Text(l, r); s != "/jobs:3/days:7" {
		t.Error(s)
	}
	if p, ok := path.Parent(l, r); !ok || p != row(1, 3) {
		t.Error(p, ok)
	}
	c := api.Cell{Row: r}
	if s := path.CellText(l, c); s != "/jobs:3/days:7.h" {
		t.Error(s)
	}
	if got, ok := path.Parse(l, "/jobs:3/days:7"); !ok || got != r {
		t.Error(got, ok)
	}
	if got, ok := path.ParseCell(l, "/jobs:3/days:7.h"); !ok || got != c {
		t.Error(got, ok)
	}
}

func TestRowsThatMayBe(t *testing.T) {
	for _, r := range goodRows() {
		if e := path.Check(example(), r); e != api.OK {
			t.Errorf("Check of %v: %v", r, e)
		}
	}
}

func TestRowsThatMayNot(t *testing.T) {
	for _, r := range badRows() {
		wantRefused(t, example(), r)
	}
}

// A list that is not built as scope.Flat builds one, wherever its fault stands: no row is taken, not even one of a sound section.
func TestListsThatMayNot(t *testing.T) {
	refused := func(l []api.Sect) {
		t.Helper()
		for _, r := range goodRows() {
			wantRefused(t, l, r)
		}
		for _, s := range []string{"/", "/jobs:3", "/jobs:3/days:7", "/homes:3/rooms:7"} {
			if r, ok := path.Parse(l, s); ok || r != (api.Row{}) {
				t.Errorf("Parse of %q in %v: %v", s, l, r)
			}
		}
		for _, s := range []string{"/.a", "/jobs:3.pay", "/homes:3.rent", "/homes:3/rooms:7.size"} {
			if c, ok := path.ParseCell(l, s); ok || c != (api.Cell{}) {
				t.Errorf("ParseCell of %q in %v: %v", s, l, c)
			}
		}
	}
	refused(nil)
	refused([]api.Sect{})
	refused(example()[1:]) // no root
	for at, sound := range example() {
		for _, parent := range []int{math.MinInt, -2, -1, 0, 1, at - 1, at, at + 1, 6, 7, math.MaxInt} {
			if x := example(); parent != sound.Parent && !sameDepth(x, parent, sound.Parent, at) {
				x[at].Parent = parent
				refused(x)
			}
		}
		for _, depth := range []int{math.MinInt, -1, 0, 1, 2, 3, 4, 5, 6, math.MaxInt} {
			if x := example(); depth != sound.Depth {
				x[at].Depth = depth
				refused(x)
			}
		}
	}
}

// sameDepth tells whether one section may stand in another one's stead as a parent.
func sameDepth(l []api.Sect, a, b, at int) bool {
	return a >= 0 && a < at && b >= 0 && l[a].Depth == l[b].Depth
}

// A chain of sections that is too deep by one, each Depth being one more than the parent's.
func TestListTooDeep(t *testing.T) {
	l := []api.Sect{{Parent: -1, Depth: 1}}
	for n := range api.MaxDepth {
		if e := path.Check(l, row(0)); e != api.OK {
			t.Errorf("%d deep: %v", n+1, e)
		}
		l = append(l, api.Sect{Parent: n, Depth: n + 2, Name: "x"})
	}
	wantRefused(t, l, row(0))
	wantRefused(t, l, row(1, 1))
}

// The root's depth is 1, whatever those of the others are.
func TestRootTooDeep(t *testing.T) {
	for depth := 2; depth <= api.MaxDepth; depth++ {
		l := []api.Sect{{Parent: -1, Depth: depth}}
		wantRefused(t, l, row(0))
		wantRefused(t, l, row(0, 1))
		l = append(l, api.Sect{Parent: 0, Depth: depth + 1, Name: "x"})
		wantRefused(t, l, row(1, 1))
		wantRefused(t, l, row(1, 1, 1))
	}
}

// Names, Max and items do not matter to Check.
func TestListsWhoseRestIsRaw(t *testing.T) {
	l := []api.Sect{{Parent: -1, Depth: 1, Name: "root", Max: -3}, {Parent: 0, Depth: 2, Max: math.MaxInt}, {Parent: 0, Depth: 2, Max: -1}}
	for _, r := range []api.Row{row(0), row(1, 2000), row(2, 1)} {
		if e := path.Check(l, r); e != api.OK {
			t.Errorf("Check of %v: %v", r, e)
		}
	}
}

func TestCells(t *testing.T) {
	l := example()
	for _, r := range goodRows() {
		n := len(l[r.Section].Items)
		for _, item := range []int{math.MinInt, -1, 0, 1, n - 1, n, n + 1, math.MaxInt} {
			want := api.ErrPath
			if item >= 0 && item < n {
				want = api.OK
			}
			c := api.Cell{Row: r, Item: item}
			if e := path.CheckCell(l, c); e != want {
				t.Errorf("CheckCell of %v: %v", c, e)
			}
			if s := path.CellText(l, c); (s == "?") != (want != api.OK) {
				t.Errorf("CellText of %v: %q", c, s)
			}
		}
	}
}

func TestIdAndParent(t *testing.T) {
	for _, c := range []struct {
		r    api.Row
		id   int64
		want api.Row
		ok   bool
	}{
		{row(0), 0, row(0), false},
		{row(1, 3), 3, row(0), true},
		{row(1, api.MaxId), api.MaxId, row(0), true},
		{row(2, 3, 7), 7, row(1, 3), true},
		{row(2, 7, 1), 1, row(1, 7), true},
		{row(3, 3, 7, 9), 9, row(2, 3, 7), true},
		{row(4, 3, 7), 7, row(1, 3), true},
		{row(5, 4), 4, row(0), true},
		{row(6, 4, api.MaxId), api.MaxId, row(5, 4), true},
	} {
		if id := path.Id(example(), c.r); id != c.id {
			t.Errorf("Id of %v: %d", c.r, id)
		}
		if p, ok := path.Parent(example(), c.r); p != c.want || ok != c.ok {
			t.Errorf("Parent of %v: %v %v", c.r, p, ok)
		}
	}
}

func TestKid(t *testing.T) {
	l := example()
	for _, r := range goodRows() {
		for _, section := range []int{math.MinInt, -2, -1, 0, 1, 2, 3, 4, 5, 6, 7, 8, math.MaxInt} {
			for _, id := range []int64{math.MinInt64, -1, 0, 1, 2, api.MaxId, api.MaxId + 1, math.MaxInt64} {
				wantKid(t, l, r, section, id)
			}
		}
	}
}

func wantKid(t *testing.T, l []api.Sect, r api.Row, section int, id int64) {
	t.Helper()
	kids := map[int][]int{0: {1, 5}, 1: {2, 4}, 2: {3}, 5: {6}}
	want, err := api.Row{}, api.ErrPath
	if slices.Contains(kids[r.Section], section) && id >= 1 && id <= api.MaxId {
		want, err = r, api.OK
		want.Section = section
		want.Ids[slices.Index(r.Ids[:], 0)] = id
	}
	if k, e := path.Kid(l, r, section, id); k != want || e != err {
		t.Errorf("Kid of %v, %d, %d: %v %v", r, section, id, k, e)
	}
}

func TestAround(t *testing.T) {
	for _, c := range []struct {
		r    api.Row
		want map[int]api.Row
	}{
		{row(0), map[int]api.Row{0: row(0)}},
		{row(1, 3), map[int]api.Row{0: row(0), 1: row(1, 3)}},
		{row(2, 3, 7), map[int]api.Row{0: row(0), 1: row(1, 3), 2: row(2, 3, 7)}},
		{row(3, 3, 7, 9), map[int]api.Row{0: row(0), 1: row(1, 3), 2: row(2, 3, 7), 3: row(3, 3, 7, 9)}},
		{row(4, 3, 8), map[int]api.Row{0: row(0), 1: row(1, 3), 4: row(4, 3, 8)}},
		{row(6, 9, 8), map[int]api.Row{0: row(0), 5: row(5, 9), 6: row(6, 9, 8)}},
	} {
		for _, section := range []int{math.MinInt, -2, -1, 0, 1, 2, 3, 4, 5, 6, 7, 8, math.MaxInt} {
			want, there := c.want[section]
			if a, ok := path.Around(example(), c.r, section); a != want || ok != there {
				t.Errorf("Around of %v, %d: %v %v", c.r, section, a, ok)
			}
		}
	}
}

func TestWithin(t *testing.T) {
	l := example()
	deep := row(3, 3, 7, 9)
	for _, outer := range []api.Row{row(0), row(1, 3), row(2, 3, 7), deep} {
		if !path.Within(l, deep, outer) {
			t.Errorf("not within %v", outer)
		}
		if outer != deep && path.Within(l, outer, deep) {
			t.Errorf("%v within", outer)
		}
	}
	for _, outer := range []api.Row{row(1, 4), row(1, 7), row(2, 3, 8), row(2, 4, 7), row(2, 7, 3), row(3, 3, 7, 8), row(3, 3, 8, 9), row(3, 4, 7, 9), row(4, 3, 7), row(5, 3), row(6, 3, 7)} {
		if path.Within(l, deep, outer) {
			t.Errorf("within %v", outer)
		}
	}
	for _, r := range goodRows() {
		if !path.Within(l, r, r) || !path.Within(l, r, row(0)) {
			t.Errorf("%v is not within itself and the root", r)
		}
	}
	for _, r := range badRows() {
		if path.Within(l, r, r) || path.Within(l, r, row(0)) || path.Within(l, deep, r) {
			t.Errorf("%v is within, or around", r)
		}
	}
}

// Rows stand in maps: what names one row is one key.
func TestRowsAsKeys(t *testing.T) {
	l := example()
	seen := map[api.Row]int{}
	for _, r := range goodRows() {
		seen[r]++
		if p, ok := path.Parent(l, r); ok {
			k, _ := path.Kid(l, p, r.Section, path.Id(l, r))
			seen[k]++
		}
	}
	for r, n := range seen {
		if want := 2 - b2i(r.Section == 0); n != want {
			t.Errorf("%v: %d", r, n)
		}
	}
}

func b2i(b bool) int {
	if b {
		return 1
	}
	return 0
}

// What is handed in stays as it is.
func TestNothingIsWritten(t *testing.T) {
	l := example()
	for _, r := range append(goodRows(), badRows()...) {
		path.CheckCell(l, api.Cell{Row: r})
		path.Id(l, r)
		path.Parent(l, r)
		path.Kid(l, r, 2, 5)
		path.Within(l, r, row(1, 3))
		path.Parse(l, path.Text(l, r))
		path.ParseCell(l, path.CellText(l, api.Cell{Row: r}))
	}
	if !reflect.DeepEqual(l, example()) {
		t.Error("the list was written to")
	}
}
