package deps_test

import (
	"slices"
	"strconv"
	"strings"
	"testing"
	"time"

	"excise/api"
	"excise/deps"
)

// fullOf is a return with as many rows as there may be, of a definition with as much as there may be: each of 60 lines of the four sections reads the one ahead of it, the root's field and the last line around.
func fullOf(t *testing.T) ret {
	t.Helper()
	var b strings.Builder
	b.WriteString("return r { field a : amount 0 ; line z : amount 0 up = a ; line last : amount 0 up = ")
	for n := range 4 {
		b.WriteString("sum ( s" + strconv.Itoa(n) + " . q59 ) + ")
	}
	b.WriteString("0 ; check c = last > a ; ")
	for n := range 4 {
		b.WriteString("section s" + strconv.Itoa(n) + " max 1024 { line q0 : amount 0 up = z + a ; ")
		for i := range 59 {
			b.WriteString("line q" + strconv.Itoa(i+1) + " : amount 0 up = q" + strconv.Itoa(i) + " + a ; ")
		}
		b.WriteString("} ")
	}
	b.WriteString("}")
	x := retOf(t, b.String())
	for x.Len() < api.MaxAll {
		if _, e := x.Insert(root, 1+x.Len()%4, 0); e != api.OK {
			t.Fatal("Insert", e)
		}
	}
	return x
}

// within holds that something is done soon enough: by far less than it would take to hold each cell against each other one.
func within(t *testing.T, what string, limit time.Duration, do func()) {
	t.Helper()
	begin := time.Now()
	do()
	if took := time.Since(begin); took > limit {
		t.Errorf("%s took %v", what, took)
	}
}

// THE BOUND, over a return as great as there may be.
func TestBound(t *testing.T) {
	x := fullOf(t)
	every := x.everyCell()
	many := 60*api.MaxAll + 4
	if len(every) != many {
		t.Fatal("cells:", len(every))
	}
	var dirty []api.Cell
	within(t, "Dirty of one cell", 20*time.Second, func() { dirty = deps.Dirty(x.Store, cell(root, 0)) })
	if len(dirty) != many-1 || dirty[0] != cell(root, 1) || dirty[many-2] != cell(root, 3) || dirty[many-3] != cell(root, 2) {
		t.Error("Dirty tells", len(dirty))
	}
	within(t, "Sort of all cells many times", 20*time.Second, func() {
		l := slices.Concat(every, every, every, every)
		slices.Reverse(l)
		if got := deps.Sort(x.Store, l...); len(got) != many || got[0] != cell(root, 0) || !slices.Equal(got[1:], dirty) {
			t.Error("Sort tells", len(got))
		}
	})
	within(t, "Dirty of all cells many times", 30*time.Second, func() {
		if got := deps.Dirty(x.Store, slices.Concat(every, every, every)...); !slices.Equal(got, dirty) {
			t.Error("Dirty tells", len(got))
		}
	})
	within(t, "Cells, Reads, Users", 10*time.Second, func() {
		if got := deps.Cells(x.Store); !slices.Equal(got, every[1:]) {
			t.Error("Cells tells", len(got))
		}
		if got := deps.Reads(x.Store, cell(root, 2)); len(got) != api.MaxAll {
			t.Error("Reads tells", len(got))
		}
		if got := deps.Users(x.Store, cell(root, 0)); len(got) != many-2 {
			t.Error("Users tells", len(got))
		}
		if got := deps.Users(x.Store, cell(root, 1)); len(got) != api.MaxAll {
			t.Error("Users tells", len(got))
		}
	})
}

// A cell that very much reads, handed in very often: what reads it is gone through once.
func TestBoundOfOneCell(t *testing.T) {
	x := fullOf(t)
	l := make([]api.Cell, 1<<20)
	for n := range l {
		l[n] = cell(root, n%2)
	}
	within(t, "Dirty", 20*time.Second, func() {
		if got := deps.Dirty(x.Store, l...); len(got) != 60*api.MaxAll+3 {
			t.Error("Dirty tells", len(got))
		}
	})
	within(t, "Sort", 20*time.Second, func() {
		if got := deps.Sort(x.Store, l...); !slices.Equal(got, l[:2]) {
			t.Error("Sort tells", got)
		}
	})
}
