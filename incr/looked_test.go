package incr_test

import (
	"math/bits"
	"strconv"
	"strings"
	"testing"
	"time"

	"excise/api"
	"excise/store"
)

// full is the definition of returns with as many rows as there may be.
const full = `return r { field a : amount 0 ; line all : amount 0 up = sum ( k . b ) + sum ( k . s ) ; line most : amount 0 up = max ( k . s ) ; line least : amount 0 up = min ( k . b ) ; check some = rows ( k ) > 3 and count ( k . b ) > 0 ;
	section k max 1024 { field b : amount 0 ; line s : amount 0 up = sum ( m . c ) + sum ( m . d ) ; line how : amount 0 up = rows ( m ) + a ; section m max 1024 { field c : amount 0 ; line d : amount 0 up = c * 2 + if ( a > 5 , 1 , 0 ) ; } } }`

// fullOf is a return of MaxAll rows: MaxRows in the root, all others within seven of these.
func fullOf(t *testing.T) *store.Store {
	t.Helper()
	x, e := store.New(schemaOf(t, full))
	if e != api.OK {
		t.Fatal("store.New", e)
	}
	for n := 0; x.Len() < api.MaxAll; n++ {
		at, section, place := root, 1, n/2
		if n >= api.MaxRows {
			at, section, place = row(1, int64(1+n%7)), 2, 0
		}
		r, e := x.Insert(at, section, place)
		if e != api.OK {
			t.Fatal("Insert", e)
		}
		x.Set(cell(r, 0), valueOf(strconv.Itoa(n%100)))
	}
	return x
}

// A meter makes changes, and holds each one's nodes that were looked at against P20.4.
type meter struct {
	kept
	most int // rows that a section within a row has or had
	used float64
}

func (x *meter) do(e api.Edit) api.Edited {
	x.t.Helper()
	looked, steps := x.Looked(), x.Steps()
	got := x.Do(e)
	if got.Err != api.OK {
		x.t.Fatal("Do", e, got.Err)
	}
	if e.Kind == api.EdInsert {
		x.most = max(x.most, len(x.Store().Rows(e.Row, e.Section)))
	}
	x.holdLooked(x.Looked()-looked, got, x.most)
	if x.Steps() != steps+int64(len(got.Reckoned)) {
		x.t.Fatal("Steps", x.Steps(), steps, len(got.Reckoned))
	}
	x.used = max(x.used, float64(x.Looked()-looked)/float64(64*(1+len(got.Reckoned))*(1+bits.Len(uint(x.most)))))
	return got
}

func (x *meter) setTo(r api.Row, item, n int) api.Edited {
	x.t.Helper()
	return x.do(api.Edit{Kind: api.EdSet, Row: r, Item: item, Value: valueOf(strconv.Itoa(n))})
}

// What a change of few cells looks at, where the bound is least: no rows, and one, with as many columns as a formula can read, and as many lines that read them.
func TestLookedOfFewRows(t *testing.T) {
	var b strings.Builder
	b.WriteString("return r { line none : amount 0 up = 1 ; section k max 9 { ")
	for n := range 60 {
		b.WriteString("field a" + strconv.Itoa(n) + " : amount 0 ; ")
	}
	b.WriteString("} ")
	for n := range 8 {
		b.WriteString("line l" + strconv.Itoa(n) + " : amount 0 up = if ( true , 1 , sum ( k . a0 )")
		for i := range 28 {
			b.WriteString(" + sum ( k . a" + strconv.Itoa((n*7+i)%60) + " )")
		}
		b.WriteString(" ) ; ")
	}
	b.WriteString("}")
	x := &meter{kept: keptOf(t, b.String())}
	for range 4 {
		r := x.do(api.Edit{Kind: api.EdInsert, Section: 1}).Row
		for item := range 60 {
			x.setTo(r, item, 7)
		}
		x.do(api.Edit{Kind: api.EdMove, Row: r})
		x.do(api.Edit{Kind: api.EdMove, Row: r, Place: x.most - 1})
	}
	for _, r := range x.Store().Rows(root, 1) {
		x.do(api.Edit{Kind: api.EdDelete, Row: r})
	}
	r := x.do(api.Edit{Kind: api.EdInsert, Section: 1}).Row
	x.setTo(r, 0, 7)
	if x.used < 0.02 {
		t.Error("little was looked at", x.used)
	}
}

// Up to MaxRows rows, that come, change, move and go at both ends and amid.
func TestLookedOfMaxRows(t *testing.T) {
	x := &meter{kept: keptOf(t, full)}
	x.setTo(root, 0, 3)
	for n := range api.MaxRows {
		place := []int{n, 0, n / 2}[n%3]
		r := x.do(api.Edit{Kind: api.EdInsert, Section: 1, Place: place}).Row
		x.setTo(r, 0, n)
	}
	rows := x.Store().Rows(root, 1)
	for n, r := range rows {
		if n%5 == 0 {
			x.do(api.Edit{Kind: api.EdMove, Row: r, Place: (n * 7) % api.MaxRows})
			x.setTo(r, 0, -n)
			x.do(api.Edit{Kind: api.EdClear, Row: r})
		}
	}
	if got := x.setTo(root, 0, 9); len(got.Reckoned) != api.MaxRows {
		t.Error("Reckoned", len(got.Reckoned))
	}
	x.hold(x.Store(), modelOf(x.Store()))
	for n := range rows {
		r := rows[(n*5)%len(rows)]
		x.do(api.Edit{Kind: api.EdDelete, Row: r})
	}
	x.hold(x.Store(), modelOf(x.Store()))
	if x.most != api.MaxRows || x.Store().Len() != 0 {
		t.Error("rows", x.most, x.Store().Len())
	}
}

// A return of MaxAll rows, those within one row deleted at once: what is gone is not looked at.
func TestLookedOfMaxAll(t *testing.T) {
	x := &meter{kept: keptFrom(t, fullOf(t)), most: api.MaxRows}
	x.setTo(root, 0, 3)
	if got := x.setTo(root, 0, 6); len(got.Reckoned) != api.MaxAll+7+2 {
		t.Error("Reckoned", len(got.Reckoned))
	}
	for n, r := range x.Store().Rows(row(1, 3), 2) {
		if n%9 == 0 {
			x.setTo(r, 0, n)
			x.do(api.Edit{Kind: api.EdMove, Row: r, Place: n / 2})
		}
	}
	x.hold(x.Store(), modelOf(x.Store()))
	for id := range 7 {
		many := len(x.Store().Rows(row(1, int64(id+1)), 2))
		looked := x.Looked()
		if got := x.do(api.Edit{Kind: api.EdDelete, Row: row(1, int64(id+1))}); len(got.Reckoned) != 4 || x.Looked()-looked > int64(many) {
			t.Error("a delete of", many, "rows:", got, x.Looked()-looked)
		}
	}
	x.hold(x.Store(), modelOf(x.Store()))
	if x.Store().Len() != api.MaxRows-7 {
		t.Error("rows", x.Store().Len())
	}
}

// Nodes that were looked at in trees that are gone still count; of a column that nobody reads there is no tree to be mended.
func TestLookedStays(t *testing.T) {
	x := taleOf(t)
	before := x.Looked()
	x.delete("/jobs:1")
	if x.Looked() <= before {
		t.Error("Looked", x.Looked(), before)
	}
	for range 3 {
		x.insert("/", "yards", 0)
	}
	before = x.Looked()
	x.set("/yards:10.g", "1")
	if x.Looked() != before {
		t.Error("a column that nobody reads was looked at", x.Looked()-before)
	}
}

// within holds that something is done soon enough: by far less than it would take to reckon all anew with each change.
func within(t *testing.T, what string, limit time.Duration, do func()) {
	t.Helper()
	begin := time.Now()
	do()
	if took := time.Since(begin); took > limit {
		t.Errorf("%s took %v", what, took)
	}
}

// THE BOUND, over a return as great as there may be, of a definition with much in it.
func TestBound(t *testing.T) {
	var b strings.Builder
	b.WriteString("return r { field a : amount 0 ; line z : amount 0 up = round ( a , 0 , up ) ; line last : amount 0 up = ")
	for n := range 4 {
		b.WriteString("sum ( s" + strconv.Itoa(n) + " . q59 ) + ")
	}
	b.WriteString("0 ; check c = last > a ; ")
	for n := range 4 {
		b.WriteString("section s" + strconv.Itoa(n) + " max 1024 { field f : amount 0 ; line q0 : amount 0 up = z + a + if ( blank ( f ) , 0 , f ) ; ")
		for i := range 59 {
			b.WriteString("line q" + strconv.Itoa(i+1) + " : amount 0 up = q" + strconv.Itoa(i) + " + a ; ")
		}
		b.WriteString("} ")
	}
	b.WriteString("}")
	s, e := store.New(schemaOf(t, b.String()))
	if e != api.OK {
		t.Fatal(e)
	}
	for s.Len() < api.MaxAll {
		s.Insert(root, 1+s.Len()%4, 0)
	}
	var x *meter
	within(t, "From", 20*time.Second, func() { x = &meter{kept: keptFrom(t, s), most: api.MaxRows} })
	within(t, "a change of each cell", 30*time.Second, func() {
		if got := x.setTo(root, 0, 1); len(got.Reckoned) != 60*api.MaxAll+3 || len(got.Changed) != len(got.Reckoned) {
			t.Error("Reckoned, Changed", len(got.Reckoned), len(got.Changed))
		}
	})
	within(t, "changes of one row", 20*time.Second, func() {
		for n := range 1000 {
			if got := x.Do(api.Edit{Kind: api.EdSet, Row: row(1, 1), Value: valueOf(strconv.Itoa(n + 1))}); len(got.Reckoned) != 62 {
				t.Fatal("Reckoned", len(got.Reckoned), got.Err)
			}
		}
	})
	within(t, "Clone, Lines, Store", 20*time.Second, func() {
		if len(x.Clone().Lines()) != 60*api.MaxAll+3 || x.Store().Len() != api.MaxAll {
			t.Error("Lines, Store")
		}
	})
}
