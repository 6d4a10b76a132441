package watch_test

import (
	"testing"

	"excise/api"
)

// more holds how many cells a change has asked.
func (x watched) more(want int64, do func() api.Edited) {
	x.t.Helper()
	before := x.Asked()
	got := do()
	if n := x.Asked() - before; n != want {
		x.t.Errorf("Asked: %d more, not %d, by %v", n, want, got)
	}
}

// few has a line and a check that read over rows, and rows whose lines read what stands around them.
const few = `return r {
	field a : amount 0 ;
	field b : amount 0 needed ;
	line all : amount 0 up = sum ( k . n ) ;
	check c = rows ( k ) < 3 ;
	line l : amount 0 up = a + 1 ;
	line m : amount 0 up = if ( l > 10 , 10 , 1 ) ;
	check d = m > 0 ;
	section k max 9 {
		field n : amount 0 ;
		field h : flag needed ;
		line p : amount 0 up = m + 1 ;
		check q = rows ( j ) = 0 ;
		section j max 9 { field x : amount 0 ; field y : text needed ; line z : amount 0 up = n ; }
	}
	section e max 9 { }
	section f max 9 { field g : amount 0 ; field s : text ; }
}`

// EdInsert: all cells of the row put in, fields too, and of Changed those beside them.
func TestAskedOfInsert(t *testing.T) {
	x := watchedOf(t, few)
	x.more(4, func() api.Edited { return x.insert("/", "k", 0) })
	x.more(0, func() api.Edited { return x.insert("/", "e", 0) })
	x.more(2, func() api.Edited { return x.insert("/", "f", 0) })
	x.more(4, func() api.Edited { return x.insert("/", "k", 1) })
	x.want(`needed .b
		error 3 .l
		error 3 .m
		error 3 .d
		needed /k[0].h
		error 3 /k[0].p
		needed /k[1].h
		error 3 /k[1].p`)
	// c no longer holds: one cell of the root beside the four.
	x.more(5, func() api.Edited { return x.insert("/", "k", 0) })
	x.more(4, func() api.Edited { return x.insert("/", "k", 3) })
	// q of the row around changes, beside three cells.
	x.more(4, func() api.Edited { return x.insert("/k:1", "j", 0) })
	x.more(3, func() api.Edited { return x.insert("/k:1", "j", 0) })
}

// EdDelete and EdMove: Changed alone, however many rows or faults there are.
func TestAskedOfDeleteAndMove(t *testing.T) {
	x := watchedOf(t, few)
	x.add("/", "k", "k", "k", "e", "f")
	x.add("/k:2", "j", "j")
	x.more(0, func() api.Edited { return x.move("/k:1", 2) })
	x.more(0, func() api.Edited { return x.move("/k:2/j:6", 1) })
	x.more(0, func() api.Edited { return x.move("/e:4", 0) })
	x.more(0, func() api.Edited { return x.delete("/k:2/j:7") })
	x.more(1, func() api.Edited { return x.delete("/k:2/j:6") })
	x.set("/k:2.n", "5")
	x.more(2, func() api.Edited { return x.delete("/k:2") })
	x.more(0, func() api.Edited { return x.delete("/k:1") })
	x.more(0, func() api.Edited { return x.delete("/f:5") })
	x.more(0, func() api.Edited { return x.delete("/e:4") })
}

// EdSet and EdClear: Changed, and the cell itself, if it has another value.
func TestAskedOfSetAndClear(t *testing.T) {
	x := watchedOf(t, few)
	x.add("/", "k", "k", "f")
	x.more(0, func() api.Edited { return x.clear("/.b") })
	x.more(1, func() api.Edited { return x.set("/.b", "1") })
	x.more(0, func() api.Edited { return x.set("/.b", "1") })
	x.more(1, func() api.Edited { return x.set("/.b", "-1") })
	x.more(1, func() api.Edited { return x.clear("/.b") })
	x.more(0, func() api.Edited { return x.clear("/.b") })
	// l, m, d, and p of both rows.
	x.more(6, func() api.Edited { return x.set("/.a", "1") })
	x.more(0, func() api.Edited { return x.set("/.a", "1") })
	// l alone, beside the field: m is the same again.
	x.more(2, func() api.Edited { return x.set("/.a", "2") })
	x.more(5, func() api.Edited { return x.set("/.a", "10") })
	x.more(6, func() api.Edited { return x.clear("/.a") })
	x.more(1, func() api.Edited { return x.set("/k:2.h", "false") })
	x.more(1, func() api.Edited { return x.set("/k:2.h", "true") })
	x.more(2, func() api.Edited { return x.set("/k:2.n", "7") })
	x.more(2, func() api.Edited { return x.set("/k:2.n", "0") })
	x.more(1, func() api.Edited { return x.clear("/k:2.n") })
	x.more(0, func() api.Edited { return x.clear("/k:2.n") })
	x.more(1, func() api.Edited { return x.set("/f:3.s", "''") })
	x.more(0, func() api.Edited { return x.set("/f:3.s", "''") })
	x.more(1, func() api.Edited { return x.clear("/f:3.s") })
}

// What is refused asks nothing, nor do New, From, Clone and all that is asked of a watch.
func TestAskedOfNothing(t *testing.T) {
	x := watchedOf(t, few)
	x.more(0, func() api.Edited { return api.Edited{} })
	x.add("/", "k", "k")
	x.set("/.a", "3")
	many := x.Asked()
	for _, e := range []api.Edit{
		{}, {Kind: 6}, {Kind: -1}, {Kind: api.EdInsert, Section: 1, Place: 3}, {Kind: api.EdInsert, Section: 9}, {Kind: api.EdInsert, Row: row(1, 9), Section: 2},
		{Kind: api.EdDelete}, {Kind: api.EdDelete, Row: row(1, 9)}, {Kind: api.EdMove}, {Kind: api.EdMove, Row: row(1, 1), Place: 2},
		{Kind: api.EdSet, Value: valueOf("1.5")}, {Kind: api.EdSet, Item: 2, Value: valueOf("1")}, {Kind: api.EdSet, Row: row(1, 9), Value: valueOf("1")}, {Kind: api.EdSet, Item: -1, Value: valueOf("1")},
		{Kind: api.EdClear, Item: 2}, {Kind: api.EdClear, Row: row(1, 9)}, {Kind: api.EdClear, Item: 7},
	} {
		x.more(0, func() api.Edited { return x.do(e) })
	}
	x.Faults()
	x.Faults("k", "b")
	x.Many("k")
	for n := range 9 {
		x.Fault(cell(row(1, 1), n-1))
		x.Fault(cell(root, n-1), "b")
	}
	x.hold("k")
	y := x.clone()
	if x.Asked() != many || y.Asked() != many || many != 4+4+6 {
		t.Error("Asked", x.Asked(), y.Asked(), many)
	}
	if z := watchedFrom(t, x.Store()); z.Asked() != 0 {
		t.Error("Asked", z.Asked())
	}
}
