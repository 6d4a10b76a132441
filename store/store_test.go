package store_test

import (
	"math"
	"slices"
	"strconv"
	"strings"
	"testing"

	"excise/api"
	"excise/decimal"
	"excise/schema"
	"excise/store"
)

// The definition that most tests take: section 1 (jobs) with 2 (days) with 3 (hours), and 4 (cars) beside 1; of each kind of items some, fields not always ahead.
const tale = `return r {
	field a : amount 2 ;
	line t : amount 2 half_up = a * 2 ;
	field f : flag ;
	check c = t > 0 ;
	field n : text needed ;
	section jobs max 3 {
		line u : amount 0 up = 1 ;
		field b : flag ;
		section days max 2 {
			field d : text ;
			section hours max 4 { field h : amount 0 ; }
		}
	}
	section cars max 5 { check ok = true ; field k : amount 18 ; }
}`

var (
	root     = api.Row{}
	noPlaces = []int{-1, -2, math.MinInt, math.MaxInt}
	blank    = api.Value{}
)

func schemaOf(t *testing.T, text string) *schema.Schema {
	t.Helper()
	s, at, e := schema.New(text)
	if e != api.OK {
		t.Fatalf("schema.New: %d at %d of %s", e, at, text)
	}
	return s
}

func newOf(t *testing.T, text string) *store.Store {
	t.Helper()
	x, e := store.New(schemaOf(t, text))
	if e != api.OK || x == nil {
		t.Fatal("New", e)
	}
	return x
}

func row(section int, ids ...int64) api.Row {
	r := api.Row{Section: section}
	copy(r.Ids[:], ids)
	return r
}

func cell(r api.Row, item int) api.Cell { return api.Cell{Row: r, Item: item} }

func insert(t *testing.T, x *store.Store, at api.Row, section, place int) api.Row {
	t.Helper()
	r, e := x.Insert(at, section, place)
	if e != api.OK {
		t.Fatalf("Insert(%v, %d, %d): %d", at, section, place, e)
	}
	return r
}

func set(t *testing.T, x *store.Store, r api.Row, item int, v api.Value) {
	t.Helper()
	if e := x.Set(cell(r, item), v); e != api.OK {
		t.Fatalf("Set(%v, %d, %v): %d", r, item, v, e)
	}
}

func num(t *testing.T, n int64, scale int) api.Value {
	t.Helper()
	d, e := decimal.OfInt(n, scale)
	if e != api.OK {
		t.Fatal("OfInt", e)
	}
	return api.Value{Kind: api.VNum, Num: d}
}

func flag(v bool) api.Value { return api.Value{Kind: api.VFlag, Flag: v} }

func text(s string) api.Value { return api.Value{Kind: api.VText, Text: s} }

func all(x *store.Store) []api.Row { return slices.Collect(x.All()) }

// seen is all that a return tells of itself.
type seen struct {
	all    []api.Row
	places []int
	values []api.Value
	plain  api.Inst
	size   int
	next   int64
}

func look(t *testing.T, x *store.Store) seen {
	t.Helper()
	s := seen{all: all(x), plain: x.Plain(), size: x.Len(), next: x.Next()}
	for _, r := range s.all {
		place, ok := x.Place(r)
		if !ok || !x.Has(r) {
			t.Fatal("a row of All is not there", r)
		}
		s.places = append(s.places, place)
		for n, item := range x.Schema().Sects()[r.Section].Items {
			v, e := x.Get(cell(r, n))
			if (e == api.OK) != (item.Kind == api.ItField) {
				t.Fatal("Get", r, n, e)
			}
			s.values = append(s.values, v)
		}
	}
	return s
}

func alike(a, b seen) bool {
	return slices.Equal(a.all, b.all) && slices.Equal(a.places, b.places) && slices.Equal(a.values, b.values) && store.Same(a.plain, b.plain) && a.size == b.size && a.next == b.next
}

// refused tells that a call answers an error, and changes nothing.
func refused(t *testing.T, x *store.Store, want api.Errno, what string, do func() api.Errno) {
	t.Helper()
	before := look(t, x)
	if e := do(); e != want {
		t.Errorf("%s: %d, not %d", what, e, want)
	}
	if now := look(t, x); !alike(before, now) {
		t.Errorf("%s changed %v to %v", what, before, now)
	}
}

func noInsert(t *testing.T, x *store.Store, want api.Errno, at api.Row, section, place int) {
	t.Helper()
	refused(t, x, want, "Insert", func() api.Errno {
		r, e := x.Insert(at, section, place)
		if r != root {
			t.Errorf("Insert(%v, %d, %d): %v with %d", at, section, place, r, e)
		}
		return e
	})
}

func noMove(t *testing.T, x *store.Store, want api.Errno, r api.Row, to int) {
	t.Helper()
	refused(t, x, want, "Move", func() api.Errno {
		was, e := x.Move(r, to)
		if was != 0 {
			t.Errorf("Move(%v, %d): %d with %d", r, to, was, e)
		}
		return e
	})
}

func noDelete(t *testing.T, x *store.Store, want api.Errno, r api.Row) {
	t.Helper()
	refused(t, x, want, "Delete", func() api.Errno { return x.Delete(r) })
}

func noSet(t *testing.T, x *store.Store, want api.Errno, c api.Cell, v api.Value) {
	t.Helper()
	refused(t, x, want, "Set", func() api.Errno { return x.Set(c, v) })
}

// noCell tells that Set, Clear and Get answer the same error of a cell, whatever the value is.
func noCell(t *testing.T, x *store.Store, want api.Errno, c api.Cell) {
	t.Helper()
	for _, v := range []api.Value{text("x"), flag(true), num(t, 1, 2), blank, {Kind: 9}} {
		noSet(t, x, want, c, v)
	}
	refused(t, x, want, "Clear", func() api.Errno { return x.Clear(c) })
	refused(t, x, want, "Get", func() api.Errno {
		v, e := x.Get(c)
		if v != blank {
			t.Errorf("Get(%v): %v with %d", c, v, e)
		}
		return e
	})
}

func get(t *testing.T, x *store.Store, r api.Row, item int, want api.Value) {
	t.Helper()
	if v, e := x.Get(cell(r, item)); v != want || e != api.OK {
		t.Errorf("Get(%v, %d): %v %d, not %v", r, item, v, e, want)
	}
}

func rows(t *testing.T, x *store.Store, at api.Row, section int, want ...api.Row) {
	t.Helper()
	if got := x.Rows(at, section); !slices.Equal(got, want) {
		t.Errorf("Rows(%v, %d): %v, not %v", at, section, got, want)
	}
	for n, r := range want {
		if place, ok := x.Place(r); place != n || !ok {
			t.Errorf("Place(%v): %d %v, not %d", r, place, ok, n)
		}
	}
}

func TestExample(t *testing.T) {
	x := newOf(t, "return r { section k max 3 { } }")
	a, b := insert(t, x, root, 1, 0), insert(t, x, root, 1, 0)
	if a != row(1, 1) || b != row(1, 2) {
		t.Error("Insert", a, b)
	}
	rows(t, x, root, 1, b, a)
	if was, e := x.Move(b, 1); was != 0 || e != api.OK {
		t.Error("Move", was, e)
	}
	rows(t, x, root, 1, a, b)
}

func TestNew(t *testing.T) {
	for _, s := range []*schema.Schema{nil, {}} {
		if x, e := store.New(s); x != nil || e != api.ErrMade {
			t.Error("New of a schema that no call made", x, e)
		}
	}
	x := newOf(t, tale)
	if got := all(x); !slices.Equal(got, []api.Row{root}) {
		t.Error("All", got)
	}
	if x.Len() != 0 || x.Next() != 1 || !x.Has(root) {
		t.Error("New", x.Len(), x.Next(), x.Has(root))
	}
	for _, item := range []int{0, 2, 4} {
		get(t, x, root, item, blank)
	}
	for _, section := range []int{1, 4} {
		rows(t, x, root, section)
	}
	if !store.Same(x.Plain(), api.Inst{Values: make([]api.Value, 3), Kids: make([][]api.Inst, 2)}) {
		t.Error("Plain", x.Plain())
	}
}

// TestNewBare: a definition without anything but a name is one, too.
func TestNewBare(t *testing.T) {
	x := newOf(t, "return r { }")
	if x.Len() != 0 || x.Next() != 1 || !slices.Equal(all(x), []api.Row{root}) || !store.Same(x.Plain(), api.Inst{}) {
		t.Error("New of nothing", x.Len(), x.Next(), all(x), x.Plain())
	}
	noInsert(t, x, api.ErrArg, root, 0, 0)
	noInsert(t, x, api.ErrArg, root, 1, 0)
	noCell(t, x, api.ErrArg, cell(root, 0))
}

func TestNoMax(t *testing.T) {
	if _, _, e := schema.New("return r { section k max 0 { } }"); e != api.ErrSize {
		t.Error("a section that never has a row is accepted", e)
	}
}

// wrongRows are rows that path.Check refuses in tale.
func wrongRows() []api.Row {
	return []api.Row{row(-1), row(5), row(math.MaxInt), row(math.MinInt, 1), row(0, 1), row(0, 0, 0, 1), row(1), row(1, -1), row(1, 0, 1), row(1, 1, 3), row(2, 1), row(2, 0, 3), row(2, 1, 3, 4), row(3, 1, 3), row(4, 1, 1), row(1, api.MaxId+1), row(1, math.MinInt64), row(4, math.MaxInt64)}
}

// peopled is a return of tale: jobs 1 and 2, in 1 the days 3 and 4, in 3 the hours 5 and 6, the car 7.
func peopled(t *testing.T) *store.Store {
	t.Helper()
	x := newOf(t, tale)
	insert(t, x, root, 1, 0)
	insert(t, x, root, 1, 1)
	insert(t, x, row(1, 1), 2, 0)
	insert(t, x, row(1, 1), 2, 1)
	insert(t, x, row(2, 1, 3), 3, 0)
	insert(t, x, row(2, 1, 3), 3, 1)
	insert(t, x, root, 4, 0)
	return x
}

func peopledRows() []api.Row {
	return []api.Row{root, row(1, 1), row(2, 1, 3), row(3, 1, 3, 5), row(3, 1, 3, 6), row(2, 1, 4), row(1, 2), row(4, 7)}
}

// awayRows are rows that may be, but are not there in peopled: never put in, of another section, within another row.
func awayRows() []api.Row {
	return []api.Row{row(1, 3), row(1, 7), row(1, 8), row(4, 1), row(4, 8), row(2, 2, 3), row(2, 1, 1), row(2, 3, 1), row(2, 3, 3), row(2, 1, 5), row(3, 1, 4, 5), row(3, 1, 3, 3), row(3, 2, 3, 5), row(3, 1, 3, 8), row(3, 1, 5, 3), row(1, api.MaxId)}
}

func TestInsert(t *testing.T) {
	x := peopled(t)
	if got := all(x); !slices.Equal(got, peopledRows()) {
		t.Error("All", got)
	}
	if x.Len() != 7 || x.Next() != 8 {
		t.Error("Len, Next", x.Len(), x.Next())
	}
	for _, at := range []api.Row{row(3, 1, 3, 5), row(2, 1, 3), row(4, 7)} {
		for n, item := range x.Schema().Sects()[at.Section].Items {
			if item.Kind == api.ItField {
				get(t, x, at, n, blank)
			}
		}
	}
}

func TestInsertPlaces(t *testing.T) {
	x := newOf(t, tale)
	var list []api.Row
	for n, place := range []int{0, 1, 0, 1, 4} {
		for _, wrong := range append([]int{n + 1, n + 2}, noPlaces...) {
			noInsert(t, x, api.ErrArg, root, 4, wrong)
		}
		r := insert(t, x, root, 4, place)
		if r != row(4, int64(n+1)) {
			t.Error("Insert", r)
		}
		list = slices.Insert(list, place, r)
		rows(t, x, root, 4, list...)
	}
	rows(t, x, root, 1)
}

func TestInsertNowhere(t *testing.T) {
	x := peopled(t)
	for _, at := range append(awayRows(), wrongRows()...) {
		for _, section := range []int{-1, 0, 1, 2, 3, 4, 5, math.MaxInt} {
			noInsert(t, x, api.ErrNone, at, section, 0)
			noInsert(t, x, api.ErrNone, at, section, -1)
		}
	}
	for _, gone := range []api.Row{row(4, 7), row(1, 1)} {
		if e := x.Delete(gone); e != api.OK {
			t.Fatal("Delete", e)
		}
	}
	noInsert(t, x, api.ErrNone, row(1, 1), 2, 0)
	noInsert(t, x, api.ErrNone, row(2, 1, 3), 3, 0)
	noInsert(t, x, api.ErrNone, row(4, 7), 4, 0)
	noInsert(t, x, api.ErrNone, row(4, 7), 1, 0)
}

func TestInsertNoKid(t *testing.T) {
	x := peopled(t)
	kids := [][]int{{1, 4}, {2}, {3}, nil, nil}
	for _, at := range peopledRows() {
		for _, section := range []int{math.MinInt, -1, 0, 1, 2, 3, 4, 5, 16, math.MaxInt} {
			if slices.Contains(kids[at.Section], section) {
				continue
			}
			for _, place := range []int{0, -1, 9} {
				noInsert(t, x, api.ErrArg, at, section, place)
			}
		}
	}
	// The days of job 1 are full: a wrong section there is no full one, and the full one is told ahead of the wrong place.
	noInsert(t, x, api.ErrArg, row(1, 1), 3, 0)
	noInsert(t, x, api.ErrFull, row(1, 1), 2, 3)
}

func TestInsertFull(t *testing.T) {
	for _, most := range []int{1, 2, 3, 7, api.MaxRows} {
		x := newOf(t, "return r { section k max "+strconv.Itoa(most)+" { } section l max 1024 { } }")
		for n := range most {
			insert(t, x, root, 1, n)
		}
		for _, place := range append([]int{0, 1, most, most + 1}, noPlaces...) {
			noInsert(t, x, api.ErrFull, root, 1, place)
		}
		insert(t, x, root, 2, 0)
		if e := x.Delete(row(1, 1)); e != api.OK {
			t.Fatal("Delete", e)
		}
		noInsert(t, x, api.ErrArg, root, 1, most)
		if r := insert(t, x, root, 1, most-1); r != row(1, int64(most+2)) {
			t.Error("Insert", r)
		}
		noInsert(t, x, api.ErrFull, root, 1, 0)
	}
}

// TestInsertFullWithin: a section has room for its Max within each row, and not over all.
func TestInsertFullWithin(t *testing.T) {
	x := newOf(t, "return r { section k max 3 { section m max 2 { } } }")
	for range 3 {
		at := insert(t, x, root, 1, 0)
		insert(t, x, at, 2, 0)
		insert(t, x, at, 2, 0)
		noInsert(t, x, api.ErrFull, at, 2, 0)
	}
	if x.Len() != 9 {
		t.Error("Len", x.Len())
	}
}

// crowd is the text of a definition with five sections of MaxRows rows, the last of them within the fourth.
const crowd = "return r { section a max 1024 { } section b max 1024 { } section c max 1024 { } section d max 1024 { section e max 1024 { } } }"

func crowded(t *testing.T, more int) *store.Store {
	t.Helper()
	x := newOf(t, crowd)
	first := insert(t, x, root, 4, 0)
	for n := range api.MaxRows {
		insert(t, x, root, 1, n)
		insert(t, x, root, 2, 0)
		insert(t, x, first, 5, n/2)
	}
	for n := range api.MaxRows - 1 - more {
		insert(t, x, root, 3, n)
	}
	return x
}

func TestInsertMaxAll(t *testing.T) {
	x := crowded(t, 2)
	last, first := row(4, 1), int64(api.MaxAll-1)
	if x.Len() != api.MaxAll-2 {
		t.Fatal("Len", x.Len())
	}
	if _, e := x.Insert(root, 4, 3); e != api.ErrArg {
		t.Error("Insert with room for two", e)
	}
	if r := insert(t, x, root, 4, 1); r != row(4, first) {
		t.Error("Insert", r)
	}
	if _, e := x.Insert(root, 4, 3); e != api.ErrArg {
		t.Error("Insert with room for one", e)
	}
	if r := insert(t, x, root, 4, 0); r != row(4, first+1) || x.Len() != api.MaxAll {
		t.Error("Insert", r, x.Len())
	}
	for _, c := range []struct {
		at      api.Row
		section int
		place   int
		want    api.Errno
	}{
		{root, 4, 0, api.ErrFull}, {root, 3, 0, api.ErrFull}, {root, 1, 0, api.ErrFull}, {root, 4, -1, api.ErrFull}, {root, 4, 4, api.ErrFull}, {last, 5, 0, api.ErrFull},
		{row(4, first), 5, 0, api.ErrFull}, {row(4, first), 4, 0, api.ErrArg}, {root, 5, 0, api.ErrArg}, {root, 0, 0, api.ErrArg}, {row(4, 2), 5, 0, api.ErrNone},
	} {
		if r, e := x.Insert(c.at, c.section, c.place); e != c.want || r != root || x.Len() != api.MaxAll || x.Next() != api.MaxAll+1 {
			t.Errorf("Insert(%v, %d, %d) of a full return: %v %d", c.at, c.section, c.place, r, e)
		}
	}
	if e := x.Delete(row(4, first)); e != api.OK || x.Len() != api.MaxAll-1 {
		t.Fatal("Delete", e, x.Len())
	}
	if r := insert(t, x, root, 4, 2); r != row(4, api.MaxAll+1) {
		t.Error("Insert", r)
	}
	if e := x.Delete(last); e != api.OK || x.Len() != api.MaxAll-1-api.MaxRows {
		t.Error("Delete", e, x.Len())
	}
}

// TestIds: ids rise over all sections, and neither a row that is gone nor a refused call changes what comes next.
func TestIds(t *testing.T) {
	x := newOf(t, tale)
	want := int64(1)
	next := func(at api.Row, section int) api.Row {
		t.Helper()
		if x.Next() != want {
			t.Errorf("Next: %d, not %d", x.Next(), want)
		}
		r := insert(t, x, at, section, 0)
		depth := x.Schema().Sects()[section].Depth
		if r.Section != section || r.Ids[depth-2] != want {
			t.Errorf("Insert: %v, not with %d", r, want)
		}
		want++
		return r
	}
	job := next(root, 1)
	next(root, 4)
	day := next(job, 2)
	hour := next(day, 3)
	if hour != row(3, 1, 3, 4) {
		t.Error("the ids of the rows around a row", hour)
	}
	x.Delete(hour)
	next(day, 3)
	x.Delete(job)
	noInsert(t, x, api.ErrNone, job, 2, 0)
	noInsert(t, x, api.ErrArg, root, 2, 0)
	noInsert(t, x, api.ErrArg, root, 1, 1)
	next(root, 1)
	x.Set(cell(root, 2), flag(true))
	x.Move(row(1, 6), 0)
	next(root, 1)
	if x.Next() != 8 {
		t.Error("Next", x.Next())
	}
}

func TestDelete(t *testing.T) {
	within := map[api.Row]int{row(1, 1): 5, row(2, 1, 3): 3, row(3, 1, 3, 5): 1, row(3, 1, 3, 6): 1, row(2, 1, 4): 1, row(1, 2): 1, row(4, 7): 1}
	for n, gone := range peopledRows()[1:] {
		x := peopled(t)
		for _, r := range peopledRows() {
			if r.Section != 0 && r.Section != 4 {
				x.Set(cell(r, []int{0, 1, 0, 0}[r.Section]), []api.Value{blank, flag(true), text("x"), num(t, 5, 0)}[r.Section])
			}
		}
		if e := x.Delete(gone); e != api.OK {
			t.Fatal("Delete", gone, e)
		}
		many := within[gone]
		left := slices.Delete(peopledRows(), n+1, n+1+many)
		if got := all(x); !slices.Equal(got, left) {
			t.Errorf("All behind Delete(%v): %v", gone, got)
		}
		if x.Len() != 7-many || x.Next() != 8 {
			t.Error("Len, Next", x.Len(), x.Next())
		}
		for _, r := range peopledRows()[n+1 : n+1+many] {
			isAway(t, x, r)
		}
		for _, r := range left {
			if !x.Has(r) {
				t.Errorf("Delete(%v) took %v", gone, r)
			}
		}
	}
}

// isAway tells that no call knows a row.
func isAway(t *testing.T, x *store.Store, r api.Row) {
	t.Helper()
	if x.Has(r) {
		t.Error("Has", r)
	}
	if place, ok := x.Place(r); place != 0 || ok {
		t.Error("Place", r, place, ok)
	}
	for section := -1; section < 6; section++ {
		if list := x.Rows(r, section); len(list) > 0 {
			t.Error("Rows", r, section, list)
		}
		noInsert(t, x, api.ErrNone, r, section, 0)
	}
	for item := -1; item < 3; item++ {
		noCell(t, x, api.ErrNone, cell(r, item))
	}
	for _, to := range []int{0, 1, -1} {
		noMove(t, x, api.ErrNone, r, to)
	}
	noDelete(t, x, api.ErrNone, r)
}

func TestNotThere(t *testing.T) {
	x := peopled(t)
	for _, r := range append(awayRows(), wrongRows()...) {
		isAway(t, x, r)
	}
}

func TestRoot(t *testing.T) {
	x := peopled(t)
	noDelete(t, x, api.ErrArg, root)
	for _, to := range append([]int{0, 1}, noPlaces...) {
		noMove(t, x, api.ErrArg, root, to)
	}
	if place, ok := x.Place(root); place != 0 || !ok {
		t.Error("Place", place, ok)
	}
}

// TestDeleteInsert: a row that comes behind one that is gone has nothing of it.
func TestDeleteInsert(t *testing.T) {
	x := peopled(t)
	set(t, x, row(4, 7), 1, num(t, 3, 18))
	x.Delete(row(4, 7))
	r := insert(t, x, root, 4, 0)
	if r != row(4, 8) {
		t.Error("Insert", r)
	}
	get(t, x, r, 1, blank)
	noCell(t, x, api.ErrNone, cell(row(4, 7), 1))
	x.Delete(row(1, 1))
	job := insert(t, x, root, 1, 0)
	rows(t, x, job, 2)
	rows(t, x, root, 1, job, row(1, 2))
}

func TestMove(t *testing.T) {
	for from := range 5 {
		for to := range 5 {
			x := newOf(t, tale)
			var list []api.Row
			for n := range 5 {
				list = append(list, insert(t, x, root, 4, n))
				set(t, x, list[n], 1, num(t, int64(n), 18))
			}
			job := insert(t, x, root, 1, 0)
			r := list[from]
			if was, e := x.Move(r, to); was != from || e != api.OK {
				t.Errorf("Move(%v, %d): %d %d", r, to, was, e)
			}
			list = slices.Insert(slices.Delete(list, from, from+1), to, r)
			rows(t, x, root, 4, list...)
			rows(t, x, root, 1, job)
			for _, r := range list {
				get(t, x, r, 1, num(t, r.Ids[0]-1, 18))
			}
			for _, wrong := range append([]int{5, 6}, noPlaces...) {
				noMove(t, x, api.ErrArg, r, wrong)
			}
		}
	}
}

// TestMoveWithin: what is within a row goes with it, and the same place is none of other rows' sections.
func TestMoveWithin(t *testing.T) {
	x := peopled(t)
	set(t, x, row(3, 1, 3, 5), 0, num(t, 5, 0))
	if was, e := x.Move(row(1, 1), 1); was != 0 || e != api.OK {
		t.Error("Move", was, e)
	}
	want := []api.Row{root, row(1, 2), row(1, 1), row(2, 1, 3), row(3, 1, 3, 5), row(3, 1, 3, 6), row(2, 1, 4), row(4, 7)}
	if got := all(x); !slices.Equal(got, want) {
		t.Error("All", got)
	}
	get(t, x, row(3, 1, 3, 5), 0, num(t, 5, 0))
	noMove(t, x, api.ErrArg, row(2, 1, 3), 2)
	noMove(t, x, api.ErrArg, row(4, 7), 1)
	if was, e := x.Move(row(4, 7), 0); was != 0 || e != api.OK {
		t.Error("Move to its own place", was, e)
	}
	if was, e := x.Move(row(3, 1, 3, 6), 0); was != 1 || e != api.OK {
		t.Error("Move", was, e)
	}
	rows(t, x, row(2, 1, 3), 3, row(3, 1, 3, 6), row(3, 1, 3, 5))
	if x.Len() != 7 || x.Next() != 8 {
		t.Error("Len, Next", x.Len(), x.Next())
	}
}

func TestSet(t *testing.T) {
	x := peopled(t)
	for _, c := range []struct {
		r    api.Row
		item int
		good []api.Value
	}{
		{root, 0, []api.Value{num(t, 0, 2), num(t, -150, 2), num(t, math.MaxInt64, 2), {Kind: api.VNum, Num: api.Dec{Neg: true, N: api.Nat{math.MaxUint64, math.MaxUint64, math.MaxUint64, math.MaxUint64}, Scale: 2}}}},
		{root, 2, []api.Value{flag(true), flag(false)}},
		{root, 4, []api.Value{text(""), text("hi"), text("\x00\xff\n"), text(strings.Repeat("x", api.MaxText))}},
		{row(1, 2), 1, []api.Value{flag(false)}},
		{row(2, 1, 4), 0, []api.Value{text("x")}},
		{row(3, 1, 3, 6), 0, []api.Value{num(t, 7, 0)}},
		{row(4, 7), 1, []api.Value{num(t, 7, 18)}},
	} {
		for _, v := range c.good {
			set(t, x, c.r, c.item, v)
			get(t, x, c.r, c.item, v)
		}
		set(t, x, c.r, c.item, c.good[0])
		get(t, x, c.r, c.item, c.good[0])
	}
	get(t, x, row(1, 1), 1, blank)
	get(t, x, row(2, 1, 3), 0, blank)
	get(t, x, row(3, 1, 3, 5), 0, blank)
}

func TestSetKinds(t *testing.T) {
	x := peopled(t)
	wrong := map[int][]api.Value{
		0: {num(t, 150, 1), num(t, 150, 3), num(t, 0, 0), flag(true), text("1.50"), {Kind: api.VNum, Num: api.Dec{Neg: true, Scale: 2}}, {Kind: api.VNum, Num: num(t, 1, 2).Num, Text: "x"}, {Kind: api.VNum, Num: num(t, 1, 2).Num, Flag: true}, {Kind: api.VNum, Num: num(t, 1, 2).Num, Err: 1}, {Kind: api.VNum, Num: api.Dec{Scale: 19}}, {Kind: api.VNum, Num: api.Dec{Scale: -1}}},
		2: {num(t, 1, 0), num(t, 1, 2), text("true"), {Kind: api.VFlag, Text: "x"}, {Kind: api.VFlag, Num: num(t, 1, 0).Num}, {Kind: api.VFlag, Err: 1}},
		4: {num(t, 1, 0), flag(true), text(strings.Repeat("x", api.MaxText+1)), {Kind: api.VText, Text: "x", Flag: true}, {Kind: api.VText, Text: "x", Err: 2}},
	}
	always := []api.Value{blank, {Flag: true}, {Text: "x"}, {Err: 1}, {Num: num(t, 1, 2).Num}, {Kind: api.VErr, Err: api.EvOver}, {Kind: api.VErr}, {Kind: 5}, {Kind: -1}, {Kind: math.MaxInt}}
	for item, good := range map[int]api.Value{0: num(t, 7, 2), 2: flag(true), 4: text("x")} {
		for _, v := range append(wrong[item], always...) {
			noSet(t, x, api.ErrKind, cell(root, item), v)
		}
		set(t, x, root, item, good)
		for _, v := range append(wrong[item], always...) {
			noSet(t, x, api.ErrKind, cell(root, item), v)
		}
		get(t, x, root, item, good)
	}
}

func TestClear(t *testing.T) {
	x := peopled(t)
	for _, r := range []api.Row{row(3, 1, 3, 5), row(3, 1, 3, 6)} {
		set(t, x, r, 0, num(t, 9, 0))
	}
	for range 2 {
		if e := x.Clear(cell(row(3, 1, 3, 5), 0)); e != api.OK {
			t.Error("Clear", e)
		}
		get(t, x, row(3, 1, 3, 5), 0, blank)
		get(t, x, row(3, 1, 3, 6), 0, num(t, 9, 0))
	}
	set(t, x, row(3, 1, 3, 5), 0, num(t, 8, 0))
	get(t, x, row(3, 1, 3, 5), 0, num(t, 8, 0))
	set(t, x, root, 0, num(t, 1, 2))
	set(t, x, root, 4, text("x"))
	if e := x.Clear(cell(root, 0)); e != api.OK {
		t.Error("Clear", e)
	}
	get(t, x, root, 0, blank)
	get(t, x, root, 4, text("x"))
}

func TestNoField(t *testing.T) {
	x := peopled(t)
	for _, c := range []struct {
		r     api.Row
		items []int
	}{
		{root, []int{1, 3, 5, 6, 64}}, {row(1, 1), []int{0, 2}}, {row(2, 1, 3), []int{1}}, {row(3, 1, 3, 5), []int{1, 2}}, {row(4, 7), []int{0, 2}},
	} {
		for _, item := range append(c.items, noPlaces...) {
			noCell(t, x, api.ErrArg, cell(c.r, item))
		}
	}
}

// TestUnmade: what no call made answers ErrMade, whatever else is wrong, or nothing.
func TestUnmade(t *testing.T) {
	for _, x := range []*store.Store{nil, {}} {
		for _, r := range append(peopledRows(), wrongRows()...) {
			if got, e := x.Insert(r, 1, 0); got != root || e != api.ErrMade {
				t.Error("Insert", got, e)
			}
			if e := x.Delete(r); e != api.ErrMade {
				t.Error("Delete", e)
			}
			if was, e := x.Move(r, 0); was != 0 || e != api.ErrMade {
				t.Error("Move", was, e)
			}
			for _, v := range []api.Value{flag(true), blank} {
				if e := x.Set(cell(r, 0), v); e != api.ErrMade {
					t.Error("Set", e)
				}
			}
			if e := x.Clear(cell(r, -1)); e != api.ErrMade {
				t.Error("Clear", e)
			}
			if v, e := x.Get(cell(r, 0)); v != blank || e != api.ErrMade {
				t.Error("Get", v, e)
			}
			if place, ok := x.Place(r); place != 0 || ok || x.Has(r) {
				t.Error("Place, Has", place, ok)
			}
			if list := x.Rows(r, 1); list != nil {
				t.Error("Rows", list)
			}
		}
		for r := range x.All() {
			t.Error("All", r)
		}
		if x.Len() != 0 || x.Next() != 0 || x.Schema() != nil || x.Clone() != nil {
			t.Error("Len, Next, Schema, Clone", x.Len(), x.Next(), x.Schema(), x.Clone())
		}
		if i := x.Plain(); i.Values != nil || i.Kids != nil {
			t.Error("Plain", i)
		}
	}
}
