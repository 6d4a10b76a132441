package aggtree_test

import (
	"math"
	"math/bits"
	"math/rand/v2"
	"slices"
	"testing"

	"excise/aggtree"
	"excise/api"
	"excise/decimal"
	"excise/summary"
)

var (
	noIds    = []int64{0, -1, math.MinInt64, api.MaxId + 1, math.MaxInt64}
	noPlaces = []int{-1, -2, math.MinInt, math.MaxInt}
	great    = api.Nat{math.MaxUint64, math.MaxUint64, math.MaxUint64, math.MaxUint64}
)

// row is what a tree should tell of one row.
type row struct {
	id     int64
	values []api.Value
}

// list is what a tree should tell: columns' scales, and rows.
type list struct {
	scales []int
	rows   []row
}

func num(n int64, scale int) api.Value {
	d, e := decimal.OfInt(n, scale)
	if e != api.OK {
		panic(e)
	}
	return api.Value{Kind: api.VNum, Num: d}
}

func greatest(neg bool, scale int) api.Value {
	return api.Value{Kind: api.VNum, Num: api.Dec{Neg: neg, N: great, Scale: scale}}
}

// odd are values of all kinds, and some that may not be.
func odd() []api.Value {
	return []api.Value{
		{},
		num(0, 2), num(1, 2), num(-1, 2), num(250, 2), num(-100, 2), num(7, 0), num(math.MinInt64, 2),
		greatest(false, 2), greatest(true, 2), greatest(true, 0),
		{Kind: api.VNum, Num: api.Dec{Neg: true, Scale: 2}},
		{Kind: api.VNum, Num: api.Dec{N: api.Nat{1}, Scale: -1}},
		{Kind: api.VNum, Num: api.Dec{N: api.Nat{1}, Scale: api.MaxScale + 1}},
		{Kind: api.VFlag, Flag: true}, {Kind: api.VText, Text: "a text"}, {Kind: api.VText},
		{Kind: api.VErr, Err: api.EvOver}, {Kind: api.VErr, Err: api.EvLow}, {Kind: api.VErr, Err: 99},
		{Kind: api.VErr}, {Kind: api.VErr, Err: -3}, {Kind: 5}, {Kind: -1},
		{Kind: api.VBlank, Text: "left over", Err: 3},
	}
}

func made(t *testing.T, scales ...int) *aggtree.Tree {
	t.Helper()
	x, e := aggtree.New(scales...)
	if e != api.OK || x == nil {
		t.Fatal("New", x, e)
	}
	return x
}

func insert(t *testing.T, x *aggtree.Tree, at int, id int64, values ...api.Value) {
	t.Helper()
	if e := x.Insert(at, id, values...); e != api.OK {
		t.Fatalf("Insert(%d, %d): %d", at, id, e)
	}
}

// of is a tree of one column of the scale 2, with rows of these ids whose values are as many hundredths, and what it should tell.
func of(t *testing.T, ids ...int64) (*aggtree.Tree, list) {
	t.Helper()
	x, l := made(t, 2), list{scales: []int{2}}
	for i, id := range ids {
		insert(t, x, i, id, num(id, 2))
		l.rows = append(l.rows, row{id, []api.Value{num(id, 2)}})
	}
	return x, l
}

// upTo is of the ids from 1 to n.
func upTo(t *testing.T, n int) (*aggtree.Tree, list) {
	t.Helper()
	ids := make([]int64, n)
	for i := range ids {
		ids[i] = int64(i + 1)
	}
	return of(t, ids...)
}

// told is what a tree tells.
func told(x *aggtree.Tree, scales ...int) list {
	l := list{scales: scales}
	for id, values := range x.All() {
		l.rows = append(l.rows, row{id, values})
	}
	return l
}

func (l list) inserted(at int, r row) list {
	return list{l.scales, slices.Insert(slices.Clone(l.rows), at, r)}
}

func (l list) deleted(at int) list {
	return list{l.scales, slices.Delete(slices.Clone(l.rows), at, at+1)}
}

func (l list) moved(from, to int) list { return l.deleted(from).inserted(to, l.rows[from]) }

func (l list) with(at, column int, v api.Value) list {
	rows := slices.Clone(l.rows)
	rows[at].values = slices.Clone(rows[at].values)
	rows[at].values[column] = v
	return list{l.scales, rows}
}

// query is the summary of a part, reckoned plainly.
func (l list) query(column, from, to int) api.Sum {
	var sums []api.Sum
	for _, r := range l.rows[from:to] {
		sums = append(sums, summary.Of(r.values[column], l.scales[column]))
	}
	return summary.Join(sums...)
}

// is holds every answer of x against l.
func (l list) is(t *testing.T, x *aggtree.Tree) {
	t.Helper()
	n := len(l.rows)
	if x.Len() != n {
		t.Fatalf("Len: %d, not %d", x.Len(), n)
	}
	i := 0
	for id, values := range x.All() {
		if i >= n || id != l.rows[i].id || !slices.Equal(values, l.rows[i].values) {
			t.Fatalf("All: %d %v as number %d of %d", id, values, i, n)
		}
		i++
	}
	if i != n {
		t.Fatalf("All: %d rows of %d", i, n)
	}
	for i, r := range l.rows {
		l.isRow(t, x, i, r)
	}
	for _, i := range append([]int{n, n + 1}, noPlaces...) {
		if id, is := x.At(i); id != 0 || is {
			t.Fatalf("At(%d): %d %v", i, id, is)
		}
	}
	if d := x.Depth(); d > 3*bits.Len(uint(n)) || d < bits.Len(uint(n)) {
		t.Fatalf("Depth: %d of %d rows", d, n)
	}
	l.isSummed(t, x)
}

func (l list) isRow(t *testing.T, x *aggtree.Tree, i int, r row) {
	t.Helper()
	if id, is := x.At(i); id != r.id || !is {
		t.Fatalf("At(%d): %d %v, not %d", i, id, is, r.id)
	}
	if at, is := x.Index(r.id); at != i || !is {
		t.Fatalf("Index(%d): %d %v, not %d", r.id, at, is, i)
	}
	for column, want := range r.values {
		if v, is := x.Get(r.id, column); v != want || !is {
			t.Fatalf("Get(%d, %d): %v %v, not %v", r.id, column, v, is, want)
		}
	}
}

// isSummed asks for the summaries of all parts, if there are few, and else of some.
func (l list) isSummed(t *testing.T, x *aggtree.Tree) {
	t.Helper()
	n := len(l.rows)
	gap := 1 + n/8
	for column := range l.scales {
		if s, e := x.Sum(column); s != l.query(column, 0, n) || e != api.OK {
			t.Fatalf("Sum(%d): %v %d", column, s, e)
		}
		for from := 0; from <= n; from += gap {
			for to := from; to <= n; to += gap {
				l.isPart(t, x, column, from, to)
			}
		}
		l.isPart(t, x, column, 0, n)
	}
}

func (l list) isPart(t *testing.T, x *aggtree.Tree, column, from, to int) {
	t.Helper()
	if s, e := x.Query(column, from, to); s != l.query(column, from, to) || e != api.OK {
		t.Fatalf("Query(%d, %d, %d): %v %d, not %v", column, from, to, s, e, l.query(column, from, to))
	}
}

// bound is how many nodes a call may look at, if the greater Len is n.
func bound(n int) int64 { return 24 * (1 + int64(bits.Len(uint(n)))) }

// looks does something, and tells how many nodes were looked at.
func looks(x *aggtree.Tree, do func()) int64 {
	before := x.Looked()
	do()
	return x.Looked() - before
}

// same tells that a refused call has changed nothing.
func (l list) same(t *testing.T, x *aggtree.Tree, do func()) {
	t.Helper()
	depth, looked := x.Depth(), x.Looked()
	do()
	if x.Depth() != depth || x.Looked() != looked {
		t.Errorf("changed: depth %d, now %d; looked %d, now %d", depth, x.Depth(), looked, x.Looked())
	}
	l.is(t, x)
}

// amount is a column's total, in hundredths that go into an int64.
func amount(t *testing.T, s api.Sum) int64 {
	t.Helper()
	for _, limb := range s.Total[1:] {
		if limb != uint64(int64(s.Total[0])>>63) {
			t.Fatal("a great total", s.Total)
		}
	}
	return int64(s.Total[0])
}

func TestExample(t *testing.T) {
	x := made(t, 2)
	insert(t, x, 0, 1, num(250, 2))
	insert(t, x, 1, 2, api.Value{})
	insert(t, x, 1, 3, num(-100, 2))
	s, e := x.Sum(0)
	if e != api.OK || s.Rows != 3 || s.Filled != 2 || s.Blank != 1 || s.Bad != 0 || amount(t, s) != 150 {
		t.Error("Sum", s, e)
	}
	if s.Min != num(-100, 2).Num || s.Max != num(250, 2).Num {
		t.Error("Sum", s)
	}
	if e := x.Set(3, 0, num(400, 2)); e != api.OK {
		t.Error("Set", e)
	}
	if s, e := x.Sum(0); amount(t, s) != 650 || s.Min != num(250, 2).Num || e != api.OK {
		t.Error("Sum", s, e)
	}
	if s, e := x.Query(0, 0, 1); amount(t, s) != 250 || s.Rows != 1 || e != api.OK {
		t.Error("Query", s, e)
	}
	list{[]int{2}, []row{{1, []api.Value{num(250, 2)}}, {3, []api.Value{num(400, 2)}}, {2, []api.Value{{}}}}}.is(t, x)
}

func TestNew(t *testing.T) {
	for _, n := range []int{0, 1, 2, api.MaxItems - 1, api.MaxItems} {
		x := made(t, make([]int, n)...)
		list{scales: make([]int, n)}.is(t, x)
		if x.Looked() != 0 || x.Depth() != 0 {
			t.Error("new", x.Looked(), x.Depth())
		}
		for _, column := range []int{-1, n, math.MinInt, math.MaxInt} {
			if s, e := x.Sum(column); s != (api.Sum{}) || e != api.ErrArg {
				t.Error("Sum", n, column, s, e)
			}
		}
		if n > 0 {
			if _, e := x.Sum(n - 1); e != api.OK {
				t.Error("Sum", n, e)
			}
		}
	}
	for _, n := range []int{api.MaxItems + 1, 1000} {
		if x, e := aggtree.New(make([]int, n)...); x != nil || e != api.ErrLong {
			t.Error("New", n, x, e)
		}
	}
}

// TestScales: scales are whatever they are; a number of another scale is an error in the column.
func TestScales(t *testing.T) {
	scales := []int{0, 2, api.MaxScale, -1, api.MaxScale + 1, math.MinInt, math.MaxInt}
	x := made(t, scales...)
	l := list{scales: scales}
	for i, scale := range []int{0, 2, api.MaxScale} {
		values := slices.Repeat([]api.Value{num(5, scale)}, len(scales))
		insert(t, x, i, int64(i+1), values...)
		l.rows = append(l.rows, row{int64(i + 1), values})
	}
	l.is(t, x)
	for column, scale := range scales {
		s, _ := x.Sum(column)
		want := 2
		if scale < 0 || scale > api.MaxScale {
			want = 3
		}
		if s.Bad != want || s.Err != api.EvType || s.Filled != 3-want {
			t.Error(scale, s)
		}
	}
}

func TestNoColumns(t *testing.T) {
	x := made(t)
	l := list{}
	for i := range 20 {
		at := i * 7 % (i + 1)
		insert(t, x, at, int64(i+1))
		l = l.inserted(at, row{id: int64(i + 1)})
		l.is(t, x)
	}
	if at, e := x.Move(1, 19); e != api.OK || l.rows[at].id != 1 {
		t.Error("Move", at, e)
	} else {
		l = l.moved(at, 19)
	}
	if at, e := x.Delete(20); e != api.OK || l.rows[at].id != 20 {
		t.Error("Delete", at, e)
	} else {
		l = l.deleted(at)
	}
	l.is(t, x)
	if e := x.Insert(0, 99, api.Value{}); e != api.ErrArg {
		t.Error("Insert", e)
	}
	if e := x.Set(1, 0, api.Value{}); e != api.ErrArg {
		t.Error("Set", e)
	}
	if v, is := x.Get(1, 0); v != (api.Value{}) || is {
		t.Error("Get", v, is)
	}
	if s, e := x.Query(0, 0, 1); s != (api.Sum{}) || e != api.ErrArg {
		t.Error("Query", s, e)
	}
}

func TestEmpty(t *testing.T) {
	x := made(t, 2)
	list{scales: []int{2}}.is(t, x)
	for _, at := range append([]int{1}, noPlaces...) {
		if e := x.Insert(at, 1, num(1, 2)); e != api.ErrArg {
			t.Error("Insert", at, e)
		}
	}
	if at, e := x.Delete(1); at != 0 || e != api.ErrNone {
		t.Error("Delete", at, e)
	}
	if at, e := x.Move(1, 0); at != 0 || e != api.ErrNone {
		t.Error("Move", at, e)
	}
	if e := x.Set(1, 0, num(1, 2)); e != api.ErrNone {
		t.Error("Set", e)
	}
	if s, e := x.Query(0, 0, 1); s != (api.Sum{}) || e != api.ErrArg {
		t.Error("Query", s, e)
	}
	list{scales: []int{2}}.same(t, x, func() {})
	if x.Looked() != 0 {
		t.Error("Looked", x.Looked())
	}
}

func TestOneRow(t *testing.T) {
	for _, id := range []int64{1, 2, api.MaxId - 1, api.MaxId} {
		x := made(t, 2)
		one := list{[]int{2}, []row{{id, []api.Value{num(5, 2)}}}}
		insert(t, x, 0, id, num(5, 2))
		one.is(t, x)
		if x.Depth() != 1 {
			t.Error("Depth", x.Depth())
		}
		if at, e := x.Move(id, 0); at != 0 || e != api.OK {
			t.Error("Move", at, e)
		}
		one.is(t, x)
		if at, e := x.Move(id, 1); at != 0 || e != api.ErrArg {
			t.Error("Move", at, e)
		}
		if e := x.Set(id, 0, num(6, 2)); e != api.OK {
			t.Error("Set", e)
		}
		one.with(0, 0, num(6, 2)).is(t, x)
		if at, e := x.Delete(id); at != 0 || e != api.OK {
			t.Error("Delete", at, e)
		}
		list{scales: []int{2}}.is(t, x)
		if _, is := x.Index(id); is || x.Depth() != 0 {
			t.Error("Index", is, x.Depth())
		}
		insert(t, x, 0, id, num(5, 2))
		one.is(t, x)
	}
}

func TestInsertPlaces(t *testing.T) {
	ids := []int64{40, 10, 30, 20, 50}
	for at := range len(ids) + 1 {
		x, l := of(t, ids...)
		insert(t, x, at, 7, num(-3, 2))
		l.inserted(at, row{7, []api.Value{num(-3, 2)}}).is(t, x)
	}
	x, l := of(t, ids...)
	for _, at := range append([]int{6, 7}, noPlaces...) {
		l.same(t, x, func() {
			if e := x.Insert(at, 7, num(1, 2)); e != api.ErrArg {
				t.Error("Insert", at, e)
			}
		})
	}
}

func TestInsertIds(t *testing.T) {
	x, l := of(t, 1, api.MaxId)
	for _, id := range noIds {
		l.same(t, x, func() {
			if e := x.Insert(1, id, num(1, 2)); e != api.ErrArg {
				t.Error("Insert", id, e)
			}
		})
	}
	for _, id := range []int64{1, api.MaxId} {
		for at := range 3 {
			l.same(t, x, func() {
				if e := x.Insert(at, id, num(1, 2)); e != api.ErrTwice {
					t.Error("Insert", id, e)
				}
			})
		}
	}
}

func TestInsertValues(t *testing.T) {
	for _, columns := range []int{0, 1, 2, 3, api.MaxItems} {
		x := made(t, make([]int, columns)...)
		l := list{scales: make([]int, columns)}
		for _, n := range []int{0, 1, 2, 3, 4, api.MaxItems - 1, api.MaxItems, api.MaxItems + 1, 1000} {
			want := api.ErrArg
			if n == columns {
				want = api.OK
				l = l.inserted(0, row{7, make([]api.Value, n)})
			}
			if e := x.Insert(0, 7, make([]api.Value, n)...); e != want {
				t.Errorf("Insert of %d values to %d columns: %d", n, columns, e)
			}
			l.is(t, x)
			if n == columns {
				x.Delete(7)
				l = l.deleted(0)
			}
		}
	}
}

func TestFull(t *testing.T) {
	x, l := upTo(t, api.MaxRows-1)
	insert(t, x, 500, api.MaxRows, num(-7, 2))
	l = l.inserted(500, row{api.MaxRows, []api.Value{num(-7, 2)}})
	for _, at := range []int{0, 500, api.MaxRows, api.MaxRows + 1, -1} {
		l.same(t, x, func() {
			if e := x.Insert(at, api.MaxRows+1, num(1, 2)); e != api.ErrFull {
				t.Error("Insert", at, e)
			}
		})
	}
	if at, e := x.Move(1, api.MaxRows-1); at != 0 || e != api.OK {
		t.Error("Move", at, e)
	}
	if e := x.Set(2, 0, num(9, 2)); e != api.OK {
		t.Error("Set", e)
	}
	if at, e := x.Delete(api.MaxRows); at != 499 || e != api.OK {
		t.Error("Delete", at, e)
	}
	l = l.moved(0, api.MaxRows-1).with(0, 0, num(9, 2)).deleted(499)
	l.is(t, x)
	insert(t, x, api.MaxRows-1, api.MaxRows+1, num(1, 2))
	if e := x.Insert(0, api.MaxRows+2, num(1, 2)); e != api.ErrFull {
		t.Error("Insert", e)
	}
}

// TestFullOfColumns: as many rows of as many columns as there may be.
func TestFullOfColumns(t *testing.T) {
	values := odd()
	scales := make([]int, api.MaxItems)
	for i := range scales {
		scales[i] = i % 3
	}
	x, l := made(t, scales...), list{scales: scales}
	for i := range api.MaxRows {
		r := row{int64(i + 1), make([]api.Value, api.MaxItems)}
		for column := range r.values {
			r.values[column] = values[(i*i+column)%len(values)]
		}
		insert(t, x, i/2, r.id, r.values...)
		l.rows = slices.Insert(l.rows, i/2, r)
	}
	l.is(t, x)
}

func TestWhichErrorIsFirst(t *testing.T) {
	full, _ := upTo(t, api.MaxRows)
	few, l := of(t, 5, 6)
	none, one, two := []api.Value{}, []api.Value{{}}, []api.Value{{}, {}}
	inserts := []struct {
		x      *aggtree.Tree
		at     int
		id     int64
		values []api.Value
		want   api.Errno
	}{
		{nil, -1, 0, two, api.ErrMade},
		{&aggtree.Tree{}, -1, 0, two, api.ErrMade},
		{&aggtree.Tree{}, 0, 1, none, api.ErrMade},
		{full, 0, 1, none, api.ErrArg},
		{full, 0, api.MaxRows + 1, two, api.ErrArg},
		{few, 0, 5, two, api.ErrArg},
		{full, 0, 0, one, api.ErrArg},
		{full, -1, api.MaxId + 1, one, api.ErrArg},
		{full, 0, 1, one, api.ErrTwice},
		{full, -1, 1, one, api.ErrTwice},
		{full, -1, api.MaxRows + 1, one, api.ErrFull},
		{few, 3, 5, one, api.ErrTwice},
		{few, -1, 6, one, api.ErrTwice},
		{few, 3, 7, one, api.ErrArg},
	}
	for _, c := range inserts {
		if e := c.x.Insert(c.at, c.id, c.values...); e != c.want {
			t.Errorf("Insert(%d, %d) of %d values: %d, not %d", c.at, c.id, len(c.values), e, c.want)
		}
	}
	for _, to := range []int{-1, 0, 2, 3} {
		if at, e := few.Move(7, to); at != 0 || e != api.ErrNone {
			t.Error("Move of none", to, at, e)
		}
	}
	for _, column := range []int{-1, 1} {
		if e := few.Set(7, column, api.Value{}); e != api.ErrArg {
			t.Error("Set of none", column, e)
		}
	}
	l.is(t, few)
}

func TestDelete(t *testing.T) {
	ids := []int64{40, 10, 30, 20, 50}
	for i, id := range ids {
		x, l := of(t, ids...)
		if at, e := x.Delete(id); at != i || e != api.OK {
			t.Error("Delete", id, at, e)
		}
		l = l.deleted(i)
		l.is(t, x)
		l.same(t, x, func() {
			if at, e := x.Delete(id); at != 0 || e != api.ErrNone {
				t.Error("Delete", id, at, e)
			}
			if v, is := x.Get(id, 0); v != (api.Value{}) || is {
				t.Error("Get", id, v, is)
			}
		})
	}
	x, l := of(t, ids...)
	for _, id := range append([]int64{7, api.MaxId}, noIds...) {
		l.same(t, x, func() {
			if at, e := x.Delete(id); at != 0 || e != api.ErrNone {
				t.Error("Delete", id, at, e)
			}
			if at, is := x.Index(id); at != 0 || is {
				t.Error("Index", id, at, is)
			}
		})
	}
}

func TestMove(t *testing.T) {
	ids := []int64{40, 10, 30, 20, 50}
	for from, id := range ids {
		for to := range ids {
			x, l := of(t, ids...)
			if at, e := x.Move(id, to); at != from || e != api.OK {
				t.Error("Move", id, to, at, e)
			}
			l.moved(from, to).is(t, x)
		}
	}
	x, l := of(t, ids...)
	for _, to := range append([]int{5, 6}, noPlaces...) {
		l.same(t, x, func() {
			if at, e := x.Move(40, to); at != 0 || e != api.ErrArg {
				t.Error("Move", to, at, e)
			}
		})
	}
	for _, id := range append([]int64{7, api.MaxId}, noIds...) {
		l.same(t, x, func() {
			if at, e := x.Move(id, 0); at != 0 || e != api.ErrNone {
				t.Error("Move", id, at, e)
			}
		})
	}
}

// TestSet gives each row of small trees each of all kinds of values, and the same one once more.
func TestSet(t *testing.T) {
	for n := 1; n < 9; n++ {
		for at := range n {
			x, l := upTo(t, n)
			for _, v := range odd() {
				l = l.with(at, 0, v)
				for range 2 {
					n := looks(x, func() {
						if e := x.Set(int64(at+1), 0, v); e != api.OK {
							t.Fatal("Set", e)
						}
					})
					if n < 1 {
						t.Error("Set looked at", n)
					}
					l.is(t, x)
				}
			}
		}
	}
}

func TestSetColumns(t *testing.T) {
	scales := []int{2, 0, 2, 5}
	x, l := made(t, scales...), list{scales: scales}
	for i := range 6 {
		r := row{int64(i + 1), []api.Value{num(1, 2), num(2, 0), num(3, 2), num(4, 5)}}
		insert(t, x, 0, r.id, r.values...)
		l = l.inserted(0, r)
	}
	for column := range scales {
		for i, r := range l.rows {
			v := num(int64(10*column+i), 2)
			if e := x.Set(r.id, column, v); e != api.OK {
				t.Fatal("Set", e)
			}
			l = l.with(i, column, v)
			l.is(t, x)
		}
	}
	for _, column := range []int{-1, 4, math.MinInt, math.MaxInt} {
		l.same(t, x, func() {
			if e := x.Set(1, column, num(1, 2)); e != api.ErrArg {
				t.Error("Set", column, e)
			}
			if v, is := x.Get(1, column); v != (api.Value{}) || is {
				t.Error("Get", column, v, is)
			}
		})
	}
	for _, id := range append([]int64{7, api.MaxId}, noIds...) {
		l.same(t, x, func() {
			if e := x.Set(id, 3, num(1, 2)); e != api.ErrNone {
				t.Error("Set", id, e)
			}
			if v, is := x.Get(id, 3); v != (api.Value{}) || is {
				t.Error("Get", id, v, is)
			}
		})
	}
}

func TestQueryParts(t *testing.T) {
	for _, n := range []int{0, 1, 2, 3, 7, 8, 33} {
		x, l := upTo(t, n)
		for from := range n + 1 {
			for to := from; to <= n; to++ {
				l.isPart(t, x, 0, from, to)
				s, _ := x.Query(0, from, to)
				if s.Rows != to-from || amount(t, s) != int64(to*(to+1)/2-from*(from+1)/2) {
					t.Error("Query", from, to, s)
				}
			}
			if s, e := x.Query(0, from, from); s != (api.Sum{}) || e != api.OK {
				t.Error("Query of nothing", from, s, e)
			}
		}
	}
}

func TestQueryWrong(t *testing.T) {
	x, l := upTo(t, 5)
	wrong := [][3]int{
		{-1, 0, 5}, {1, 0, 5}, {math.MinInt, 0, 0}, {math.MaxInt, 0, 0}, {1, 3, 2},
		{0, -1, 0}, {0, -1, -1}, {0, -1, 5}, {0, 1, 0}, {0, 5, 4}, {0, 0, 6}, {0, 5, 6}, {0, 6, 6}, {0, 6, 5},
		{0, math.MinInt, math.MaxInt}, {0, math.MaxInt, math.MinInt}, {0, math.MinInt, 3}, {0, 3, math.MaxInt},
		{0, math.MinInt, math.MinInt}, {0, math.MaxInt, math.MaxInt},
	}
	for _, w := range wrong {
		l.same(t, x, func() {
			if s, e := x.Query(w[0], w[1], w[2]); s != (api.Sum{}) || e != api.ErrArg {
				t.Error("Query", w, s, e)
			}
		})
	}
	for _, column := range []int{-1, 1, math.MinInt, math.MaxInt} {
		l.same(t, x, func() {
			if s, e := x.Sum(column); s != (api.Sum{}) || e != api.ErrArg {
				t.Error("Sum", column, s, e)
			}
		})
	}
}

// TestGreatNumbers: parts that have no room in 256 bits do not spoil a whole that has.
func TestGreatNumbers(t *testing.T) {
	x := made(t, 2)
	l := list{scales: []int{2}}
	for i := range 64 {
		v := greatest(i >= 32, 2)
		insert(t, x, i, int64(i+1), v)
		l.rows = append(l.rows, row{int64(i + 1), []api.Value{v}})
	}
	l.is(t, x)
	s, _ := x.Sum(0)
	if d, e := summary.Total(s, 2); d != (api.Dec{Scale: 2}) || e != api.OK {
		t.Error("Total", d, e)
	}
	half, _ := x.Query(0, 0, 32)
	if _, e := summary.Total(half, 2); e != api.ErrOver {
		t.Error("Total of half", e)
	}
	x.Set(64, 0, num(1, 2))
	s, _ = x.Sum(0)
	if d, e := summary.Total(s, 2); e != api.ErrOver {
		t.Error("Total", d, e)
	}
}

func TestUnmade(t *testing.T) {
	for _, x := range []*aggtree.Tree{nil, {}} {
		if e := x.Insert(0, 1); e != api.ErrMade {
			t.Error("Insert", e)
		}
		if at, e := x.Delete(1); at != 0 || e != api.ErrMade {
			t.Error("Delete", at, e)
		}
		if at, e := x.Move(1, 0); at != 0 || e != api.ErrMade {
			t.Error("Move", at, e)
		}
		for _, column := range []int{-1, 0, 1} {
			if e := x.Set(1, column, api.Value{}); e != api.ErrMade {
				t.Error("Set", e)
			}
			if v, is := x.Get(1, column); v != (api.Value{}) || is {
				t.Error("Get", v, is)
			}
			if s, e := x.Sum(column); s != (api.Sum{}) || e != api.ErrMade {
				t.Error("Sum", s, e)
			}
			if s, e := x.Query(column, 1, 0); s != (api.Sum{}) || e != api.ErrMade {
				t.Error("Query", s, e)
			}
		}
		if id, is := x.At(0); id != 0 || is {
			t.Error("At", id, is)
		}
		if at, is := x.Index(1); at != 0 || is {
			t.Error("Index", at, is)
		}
		for id, values := range x.All() {
			t.Error("All", id, values)
		}
		if x.Len() != 0 || x.Depth() != 0 || x.Looked() != 0 || x.Clone() != nil {
			t.Error(x.Len(), x.Depth(), x.Looked(), x.Clone())
		}
	}
}

func TestAllStops(t *testing.T) {
	x, l := of(t, 3, 1, 2)
	all := x.All()
	for stop := 1; stop < 5; stop++ {
		n := 0
		for id, values := range all {
			if id != l.rows[n].id || !slices.Equal(values, l.rows[n].values) {
				t.Error(n, id, values)
			}
			if n++; n == stop {
				break
			}
		}
		if n != min(stop, 3) {
			t.Error("told", n, "of", stop)
		}
	}
}

// TestAllTellsWhatWas: changes behind All are not told, not even those amid its going through.
func TestAllTellsWhatWas(t *testing.T) {
	x, l := of(t, 3, 1, 2)
	all := x.All()
	var got []row
	for id, values := range all {
		got = append(got, row{id, values})
		insert(t, x, 0, id+10, num(0, 2))
		for _, r := range l.rows {
			x.Set(r.id, 0, num(99, 2))
		}
		if _, e := x.Delete(id); e != api.OK {
			t.Error("Delete", e)
		}
	}
	var again []row
	for id, values := range all {
		again = append(again, row{id, values})
	}
	for i, r := range l.rows {
		if got[i].id != r.id || !slices.Equal(got[i].values, r.values) {
			t.Error(got[i])
		}
		if again[i].id != r.id || !slices.Equal(again[i].values, r.values) {
			t.Error("again", again[i])
		}
	}
	if x.Len() != 3 || len(got) != 3 || len(again) != 3 {
		t.Error(x.Len(), len(got), len(again))
	}
	empty := made(t, 2)
	none := empty.All()
	insert(t, empty, 0, 1, num(1, 2))
	for range none {
		t.Error("told what came later")
	}
}

// TestToldIsNobodysElse: who writes to what All tells changes neither the tree nor what others are told.
func TestToldIsNobodysElse(t *testing.T) {
	scales := []int{2, 2}
	x, l := made(t, scales...), list{scales: scales}
	for i := range 3 {
		r := row{int64(i + 1), []api.Value{num(1, 2), num(2, 2)}}
		insert(t, x, i, r.id, r.values...)
		l.rows = append(l.rows, r)
	}
	all := x.All()
	var kept [][]api.Value
	for range 2 {
		for _, values := range all {
			if !slices.Equal(values, l.rows[0].values) {
				t.Error("told", values)
			}
			kept = append(kept, values)
			_ = append(values, num(7, 2))
			values[0], values[1] = num(8, 2), num(int64(len(kept)), 2)
		}
	}
	for i, values := range kept {
		if values[1] != num(int64(i+1), 2) {
			t.Error("two share one list", i, values)
		}
	}
	l.is(t, x)
}

// TestHandedInIsNotKept: nor is it written to.
func TestHandedInIsNotKept(t *testing.T) {
	scales := []int{2, 2, 9}
	x := made(t, scales[:2]...)
	values := []api.Value{num(1, 2), num(2, 2), num(3, 2)}
	l := list{scales: []int{2, 2}}
	for i := range 5 {
		insert(t, x, i, int64(i+1), values[:2]...)
		l.rows = append(l.rows, row{int64(i + 1), []api.Value{num(1, 2), num(2, 2)}})
	}
	scales[0], scales[1] = 0, 0
	values[0], values[1] = num(7, 2), num(8, 2)
	l.is(t, x)
	x.Set(3, 0, num(50, 2))
	l = l.with(2, 0, num(50, 2))
	l.is(t, x)
	if !slices.Equal(scales, []int{0, 0, 9}) || !slices.Equal(values, []api.Value{num(7, 2), num(8, 2), num(3, 2)}) {
		t.Error("written to", scales, values)
	}
}

func TestClone(t *testing.T) {
	for _, n := range []int{0, 1, 2, 3, 10, 100, api.MaxRows - 1} {
		x, l := upTo(t, n)
		y := x.Clone()
		if y.Depth() != x.Depth() || y.Looked() != x.Looked() {
			t.Error("Clone", y.Depth(), x.Depth(), y.Looked(), x.Looked())
		}
		l.is(t, y)
		looked := x.Looked()
		insert(t, y, n/2, api.MaxId, num(5, 2))
		if n > 0 {
			y.Set(1, 0, num(77, 2))
			y.Set(int64(n), 0, num(78, 2))
			y.Delete(1)
			y.Move(api.MaxId, 0)
		}
		after := told(y, 2)
		after.is(t, y)
		if x.Looked() != looked {
			t.Error("Looked of the one changed by the other")
		}
		l.is(t, x)
		insert(t, x, 0, api.MaxId, num(6, 2))
		if n > 1 {
			x.Set(2, 0, num(79, 2))
			x.Delete(2)
		}
		after.is(t, y)
	}
}

// insertions goes through all ways to put n rows into an empty tree, one behind the other.
func insertions(n int, do func(places []int)) {
	places := make([]int, n)
	var from func(i int)
	from = func(i int) {
		if i == n {
			do(places)
			return
		}
		for at := range i + 1 {
			places[i] = at
			from(i + 1)
		}
	}
	from(0)
}

func build(t *testing.T, places []int) (*aggtree.Tree, list) {
	t.Helper()
	x, l := made(t, 2), list{scales: []int{2}}
	for i, at := range places {
		r := row{int64(i + 1), []api.Value{num(1<<i, 2)}}
		insert(t, x, at, r.id, r.values...)
		l = l.inserted(at, r)
	}
	return x, l
}

// TestSmall goes through all trees of up to five rows, with all Deletes behind one another, and all of six rows, with all Sets and some Moves.
func TestSmall(t *testing.T) {
	var empty func(x *aggtree.Tree, l list)
	empty = func(x *aggtree.Tree, l list) {
		l.is(t, x)
		for i, r := range l.rows {
			y := x.Clone()
			if at, e := y.Delete(r.id); at != i || e != api.OK {
				t.Fatal("Delete", at, e)
			}
			empty(y, l.deleted(i))
		}
	}
	for n := range 6 {
		insertions(n, func(places []int) {
			x, l := build(t, places)
			empty(x, l)
		})
	}
	insertions(6, func(places []int) {
		x, l := build(t, places)
		l.is(t, x)
		for from, r := range l.rows {
			y, to := x.Clone(), (from+places[5])%6
			if at, e := y.Move(r.id, to); at != from || e != api.OK {
				t.Fatal("Move", at, e)
			}
			l.moved(from, to).is(t, y)
			y = x.Clone()
			if e := y.Set(r.id, 0, num(-1000, 2)); e != api.OK {
				t.Fatal("Set", e)
			}
			l.with(from, 0, num(-1000, 2)).is(t, y)
		}
	})
}

// TestLookedOfNothing: who is refused, or asks for what is not there, looks at no node; nor does who goes through all count as a look.
func TestLookedOfNothing(t *testing.T) {
	x, _ := upTo(t, 100)
	n := looks(x, func() {
		x.Insert(101, 200, num(1, 2))
		x.Insert(0, 200)
		x.Insert(0, 50, num(1, 2))
		x.Delete(200)
		x.Move(200, 0)
		x.Move(50, 100)
		x.Set(200, 0, num(1, 2))
		x.Set(50, 1, num(1, 2))
		x.Get(200, 0)
		x.Get(50, 1)
		x.Sum(1)
		x.Query(0, 2, 1)
		x.At(100)
		x.Index(200)
		told(x)
		x.Len()
		x.Depth()
		x.Looked()
		x.Clone()
	})
	if n != 0 {
		t.Error("Looked", n)
	}
}

func TestSumLooksAtOne(t *testing.T) {
	for _, n := range []int{0, 1, 2, 100, api.MaxRows} {
		x, _ := upTo(t, n)
		if looked := looks(x, func() { x.Sum(0) }); looked > 1 {
			t.Error("Sum looked at", looked, "of", n)
		}
	}
}

// TestParts is P6.5.
func TestParts(t *testing.T) {
	values := odd()
	x := made(t, 2)
	for i := range 40 {
		insert(t, x, i*i%(i+1), int64(i+1), values[i*11%len(values)])
	}
	query := func(from, to int) api.Sum {
		s, e := x.Query(0, from, to)
		if e != api.OK {
			t.Fatal("Query", e)
		}
		return s
	}
	for from := range 41 {
		for to := from; to <= 40; to++ {
			for mid := from; mid <= to; mid++ {
				if summary.Join(query(from, mid), query(mid, to)) != query(from, to) {
					t.Fatal(from, mid, to)
				}
			}
		}
	}
	if s, e := x.Sum(0); s != query(0, 40) || e != api.OK {
		t.Error("Sum", s, e)
	}
}

// TestHistoryDoesNotMatter is P6.6: the same rows, come to in several ways.
func TestHistoryDoesNotMatter(t *testing.T) {
	const n = 300
	values := odd()
	l := list{scales: []int{2}}
	for i := range n {
		l.rows = append(l.rows, row{int64(i*7%n + 1), []api.Value{values[i*13%len(values)]}})
	}
	behind, ahead := made(t, 2), made(t, 2)
	for i, r := range l.rows {
		insert(t, behind, i, r.id, r.values...)
	}
	l.is(t, behind)
	for _, r := range slices.Backward(l.rows) {
		insert(t, ahead, 0, r.id, r.values...)
	}
	l.is(t, ahead)
	sorted, _ := upTo(t, n)
	for to, r := range l.rows {
		sorted.Move(r.id, to)
		sorted.Set(r.id, 0, r.values[0])
	}
	l.is(t, sorted)
	much, _ := upTo(t, api.MaxRows)
	for id := api.MaxRows; id > n; id-- {
		much.Delete(int64(id))
	}
	for _, r := range l.rows {
		much.Set(r.id, 0, r.values[0])
		much.Move(r.id, n-1)
	}
	l.is(t, much)
}

// TestTheSameCallsAnswerTheSame: shape and looks, too.
func TestTheSameCallsAnswerTheSame(t *testing.T) {
	run := func() []int64 {
		var said []int64
		x, _ := upTo(t, 400)
		for id := range int64(300) {
			at, _ := x.Move(id+1, int(id*id%400))
			s, _ := x.Query(0, int(id), 350)
			x.Set(id+2, 0, num(id, 2))
			said = append(said, int64(at), x.Looked(), int64(x.Depth()), amount(t, s))
			if id%3 == 0 {
				x.Delete(id + 1)
				x.Insert(int(id), id+1, num(3, 2))
			}
		}
		for id := range x.All() {
			said = append(said, id)
		}
		return said
	}
	if first := run(); !slices.Equal(first, run()) {
		t.Error("two runs differ")
	}
}

// play does steps on a tree and on a list, and holds the one against the other.
type play struct {
	list
	t      *testing.T
	x      *aggtree.Tree
	next   int64
	values []api.Value
	r      *rand.Rand
}

func newPlay(t *testing.T, a, b int, scales ...int) *play {
	return &play{t: t, x: made(t, scales...), list: list{scales: scales}, values: odd(), r: rand.New(rand.NewPCG(uint64(a), uint64(b)))}
}

// value is one of all kinds of values, most often a number of the scale 2.
func (p *play) value() api.Value {
	if p.r.IntN(3) == 0 {
		return p.values[p.r.IntN(len(p.values))]
	}
	return num(p.r.Int64N(2001)-1000, 2)
}

// within fails, if a step looked at more nodes than times the bound, or at fewer than least.
func (p *play) within(name string, times, least int64, ahead int, looked int64) {
	p.t.Helper()
	if most := times * bound(max(ahead, len(p.rows))); looked > most || looked < least {
		p.t.Fatalf("%s looked at %d nodes of at most %d", name, looked, most)
	}
	if d := p.x.Depth(); d > 3*bits.Len(uint(len(p.rows))) {
		p.t.Fatalf("%s: Depth %d of %d rows", name, d, len(p.rows))
	}
	for column := range p.scales {
		if s, e := p.x.Sum(column); s.Rows != len(p.rows) || e != api.OK {
			p.t.Fatalf("%s: Sum(%d): %v %d", name, column, s, e)
		}
	}
}

func (p *play) insert(at int) {
	p.t.Helper()
	p.next++
	r := row{p.next, make([]api.Value, len(p.scales))}
	for column := range r.values {
		r.values[column] = p.value()
	}
	n := looks(p.x, func() { insert(p.t, p.x, at, r.id, r.values...) })
	ahead := len(p.rows)
	p.rows = slices.Insert(p.rows, at, r)
	p.within("Insert", 1, 1, ahead, n)
}

func (p *play) delete(at int) {
	p.t.Helper()
	n := looks(p.x, func() {
		if got, e := p.x.Delete(p.rows[at].id); got != at || e != api.OK {
			p.t.Fatal("Delete", got, at, e)
		}
	})
	ahead := len(p.rows)
	p.rows = slices.Delete(p.rows, at, at+1)
	p.within("Delete", 1, 1, ahead, n)
}

func (p *play) move(from, to int) {
	p.t.Helper()
	n := looks(p.x, func() {
		if got, e := p.x.Move(p.rows[from].id, to); got != from || e != api.OK {
			p.t.Fatal("Move", got, from, e)
		}
	})
	p.list = p.moved(from, to)
	p.within("Move", 2, 0, len(p.rows), n)
}

func (p *play) set(at, column int) {
	p.t.Helper()
	v := p.value()
	n := looks(p.x, func() {
		if e := p.x.Set(p.rows[at].id, column, v); e != api.OK {
			p.t.Fatal("Set", e)
		}
	})
	p.rows[at].values[column] = v
	p.within("Set", 1, 1, 0, n)
}

// ask asks for one place, its id and a value, and for a part of a column.
func (p *play) ask(at, column, from, to int) {
	p.t.Helper()
	r := p.rows[at]
	p.within("At", 1, 0, 0, looks(p.x, func() {
		if id, is := p.x.At(at); id != r.id || !is {
			p.t.Fatal("At", at, id, is)
		}
	}))
	p.within("Index", 1, 0, 0, looks(p.x, func() {
		if got, is := p.x.Index(r.id); got != at || !is {
			p.t.Fatal("Index", got, at, is)
		}
	}))
	p.within("Get", 1, 0, 0, looks(p.x, func() {
		if v, is := p.x.Get(r.id, column); v != r.values[column] || !is {
			p.t.Fatal("Get", v, is)
		}
	}))
	p.within("Query", 1, 0, 0, looks(p.x, func() { p.isPart(p.t, p.x, column, from, to) }))
}

// place is one of n places, chosen by a way: ahead of all, behind all, in the middle, or anywhere.
func (p *play) place(way, n int) int {
	return []int{0, n - 1, n / 2, p.r.IntN(n)}[way]
}

// part is two of the places from 0 to n, the lesser one first.
func (p *play) part(n int) (int, int) {
	a, b := p.r.IntN(n+1), p.r.IntN(n+1)
	return min(a, b), max(a, b)
}

// TestFillAndEmpty fills trees to MaxRows and empties them, in each of four ways.
func TestFillAndEmpty(t *testing.T) {
	for in := range 4 {
		for out := range 4 {
			p := newPlay(t, in, out, 2)
			for n := range api.MaxRows {
				p.insert(p.place(in, n+1))
				from, to := p.part(min(n+1, 50))
				p.ask(p.place(out, n+1), 0, from, to)
			}
			p.is(t, p.x)
			for n := api.MaxRows; n > 0; n-- {
				p.delete(p.place(out, n))
				if n%100 == 2 {
					p.is(t, p.x)
				}
			}
			p.is(t, p.x)
		}
	}
}

// TestMoves moves rows in each of four ways from and to.
func TestMoves(t *testing.T) {
	for _, n := range []int{2, 3, 17, 300, api.MaxRows} {
		for from := range 4 {
			for to := range 4 {
				p := newPlay(t, from, to, 2)
				for i := range n {
					p.insert(i)
				}
				for range min(2*n, 300) {
					p.move(p.place(from, n), p.place(to, n))
				}
				p.is(t, p.x)
			}
		}
	}
}

// TestQueryLooks asks for parts all over great trees, those at the ends among them.
func TestQueryLooks(t *testing.T) {
	for way := range 4 {
		p := newPlay(t, way, 6, 2)
		for n := range api.MaxRows {
			p.insert(p.place(way, n+1))
		}
		for at := range api.MaxRows + 1 {
			for _, part := range [][2]int{{0, at}, {at, api.MaxRows}, {at / 2, at}, {at, at}, {max(at-1, 0), at}} {
				n := looks(p.x, func() {
					if s, e := p.x.Query(0, part[0], part[1]); s.Rows != part[1]-part[0] || e != api.OK {
						t.Fatal("Query", part, s, e)
					}
				})
				p.within("Query", 1, 0, 0, n)
			}
		}
	}
}

func TestRandomSteps(t *testing.T) {
	scales := []int{2, 0, 2}
	for seed := range 40 {
		p := newPlay(t, seed, 4, scales[:1+seed%3]...)
		most := 1 + seed*seed/2
		for range 1000 {
			n := len(p.rows)
			switch k := p.r.IntN(8); {
			case k < 3 && n < most || n == 0:
				p.insert(p.r.IntN(n + 1))
			case k < 5 && k > 0:
				p.delete(p.r.IntN(n))
			case k < 7:
				p.set(p.r.IntN(n), p.r.IntN(len(p.scales)))
			default:
				p.move(p.r.IntN(n), p.r.IntN(n))
			}
			if n := len(p.rows); n > 0 {
				from, to := p.part(n)
				p.ask(p.r.IntN(n), p.r.IntN(len(p.scales)), from, to)
			}
			if p.r.IntN(40) == 0 {
				p.is(t, p.x)
			}
		}
		p.is(t, p.x)
	}
}
