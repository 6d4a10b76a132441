package rules_test

import (
	"maps"
	"slices"
	"strconv"
	"strings"
	"testing"
	"time"

	"excise/api"
	"excise/rules"
	"excise/schema"
	"excise/store"
)

// nothing holds that nothing is told of a return.
func nothing(t *testing.T, x *store.Store, lines map[api.Cell]api.Value, cells []api.Cell) {
	t.Helper()
	for _, names := range [][]string{nil, {"a", "jobs", ""}} {
		if got := rules.Faults(x, lines, names...); len(got) != 0 {
			t.Error("Faults", got)
		}
		for _, c := range cells {
			if rules.Skipped(x, c, names...) {
				t.Error("Skipped", c)
			}
			for _, v := range []string{"blank", "false", "!1", "1"} {
				if f, ok := rules.Of(x, c, valueOf(v), names...); ok || !sameFault(f, api.Fault{}) {
					t.Error("Of", c, f)
				}
			}
		}
	}
}

// Returns that no call made.
func TestNotMade(t *testing.T) {
	made := saidTale(t)
	cells := made.everyCell()
	for _, r := range away() {
		cells = append(cells, cell(r, 0), cell(r, -1))
	}
	none, e := store.New(nil)
	if e != api.ErrMade {
		t.Fatal(e)
	}
	for _, x := range []*store.Store{nil, {}, new(store.Store), none} {
		nothing(t, x, made.lines, cells)
		nothing(t, x, nil, cells)
		for _, c := range cells {
			if at := rules.At(x, c.Row); len(at) != 0 {
				t.Error("At", c.Row, at)
			}
		}
	}
}

// A return whose schema its owner has overwritten: with none nothing is known any more, with another one just no call panics.
func TestSchemaOverwritten(t *testing.T) {
	for _, other := range []string{"", "return r { }", "return r { section jobs max 9 { field a : amount 0 needed ; section m max 9 { line b : amount 0 up = a ; } } line c : amount 0 up = sum ( jobs . a ) ; }"} {
		x := saidTale(t)
		every, s := x.everyCell(), &schema.Schema{}
		if other != "" {
			s = schemaOf(t, other)
		}
		*x.Schema() = *s
		for _, c := range every {
			rules.At(x.Store, c.Row)
			rules.Skipped(x.Store, c, "jobs", "a")
			rules.Of(x.Store, c, api.Value{}, "jobs", "a")
		}
		rules.Faults(x.Store, x.lines, "jobs", "a")
		if other == "" {
			nothing(t, x.Store, x.lines, every)
		}
	}
}

// R3: nothing that is handed in is changed or kept, and what is told is nobody's else.
func TestNothingIsShared(t *testing.T) {
	x := saidTale(t)
	rows, plain, next, text, lines := slices.Collect(x.All()), x.Plain(), x.Next(), x.Schema().Text(), maps.Clone(x.lines)
	names := []string{"who", "cars", "who", "nobody"}
	kept := slices.Clone(names)
	got := rules.Faults(x.Store, x.lines, names...)
	want := cloned(got)
	// Two lists of one answer share nothing, nor do two answers.
	for n := range got {
		spoil(got[n].At)
		for m := range got {
			if m > n && !sameFault(got[m], want[m]) {
				t.Fatal("two lists of one answer are shared", n, m)
			}
		}
	}
	clear(got)
	again := rules.Faults(x.Store, x.lines, names...)
	if len(want) < 8 || !sameFaults(again, want) {
		t.Fatal("what was told is shared")
	}
	for _, f := range want {
		spoil(rules.At(x.Store, f.Cell.Row))
		g, _ := rules.Of(x.Store, f.Cell, x.lines[f.Cell], names...)
		spoil(g.At)
		rules.Skipped(x.Store, f.Cell, names...)
		a, b := cloned([]api.Fault{f})[0], cloned(want[:1])[0]
		rules.Compare(a, b)
		rules.Same(a, b)
		rules.Text(x.l, a)
		if !sameFault(a, f) || !sameFault(b, want[0]) {
			t.Fatal("a fault that was handed in was written to")
		}
	}
	if !sameFaults(rules.Faults(x.Store, x.lines, names...), want) || !slices.Equal(names, kept) || !maps.Equal(lines, x.lines) {
		t.Error("something that was handed in was written to, or is shared")
	}
	if !slices.Equal(rows, slices.Collect(x.All())) || !store.Same(plain, x.Plain()) || next != x.Next() || text != x.Schema().Text() {
		t.Error("the return was changed")
	}
	names[0], names[1] = "a", "b"
	if !sameFaults(again, want) {
		t.Error("names are kept")
	}
}

// spoil overwrites a list, and what may lie behind it.
func spoil(l []int) {
	l = l[:cap(l)]
	for n := range l {
		l[n] = -99
	}
}

// within holds that something is done soon enough: by far less than it would take to go through all names, or all rows, for each cell.
func within(t *testing.T, what string, limit time.Duration, do func()) {
	t.Helper()
	begin := time.Now()
	do()
	if took := time.Since(begin); took > limit {
		t.Errorf("%s took %v", what, took)
	}
}

// THE BOUND: as many rows as there may be, each with as many faults, and very many names.
func TestBound(t *testing.T) {
	var b strings.Builder
	b.WriteString("return r { ")
	for n := range 4 {
		b.WriteString("section s" + strconv.Itoa(n) + " max 1024 { ")
		for i := range api.MaxItems {
			b.WriteString("field q" + strconv.Itoa(i) + " : amount 0 needed ; ")
		}
		b.WriteString("} ")
	}
	x := retOf(t, b.String()+"}")
	for x.Len() < api.MaxAll {
		if _, e := x.Insert(root, 1+x.Len()%4, 0); e != api.OK {
			t.Fatal("Insert", e)
		}
	}
	names := make([]string, 1<<20)
	for n := range names {
		names[n] = "n" + strconv.Itoa(n)
	}
	names[len(names)-1] = "s2"
	lines := map[api.Cell]api.Value{}
	for n := range 1 << 18 {
		lines[cell(row(1, int64(n)), n%api.MaxItems)] = valueOf("!1")
	}
	var all, some []api.Fault
	within(t, "Faults", 20*time.Second, func() { all = rules.Faults(x.Store, lines) })
	within(t, "Faults without many names", 20*time.Second, func() { some = rules.Faults(x.Store, lines, names...) })
	if len(all) != api.MaxAll*api.MaxItems || len(some) != 3*len(all)/4 {
		t.Error("faults:", len(all), len(some))
	}
	within(t, "Compare, Same and Text of long lists", 20*time.Second, func() {
		f := api.Fault{At: make([]int, 1<<21)}
		g := api.Fault{At: append(make([]int, 1<<21), 1)}
		if rules.Compare(f, g) != -1 || rules.Same(f, g) || len(rules.Text(x.l, f)) != 4<<20+4 {
			t.Error("of long lists")
		}
	})
	within(t, "Of and Skipped with many names", 20*time.Second, func() {
		for range 5 {
			rules.Of(x.Store, cell(row(1, 1), 0), api.Value{}, names...)
			rules.Skipped(x.Store, cell(row(1, 1), 0), names...)
		}
	})
}
