package rules_test

import (
	"cmp"
	"math"
	"testing"

	"excise/api"
	"excise/rules"
)

// rising are faults each of which is less than all behind it.
func rising() []api.Fault {
	at := func(l ...int) api.Fault { return api.Fault{Kind: 2, At: l, Cell: cell(root, 3)} }
	return []api.Fault{
		{Cell: cell(root, math.MinInt), Kind: 9, Err: 9},
		{Cell: cell(root, -1), Kind: 9, Err: 9},
		{Kind: math.MinInt, Err: 9}, {Kind: -1, Err: 9}, {Err: 9},
		{Kind: 1, Err: math.MinInt}, {Kind: 1, Err: -2}, {Kind: 1}, {Kind: 1, Err: 1}, {Kind: 1, Err: 5}, {Kind: 1, Err: math.MaxInt},
		{Kind: 2, Err: -1}, {Kind: 2}, {Kind: 3}, {Kind: 4, Err: -5}, {Kind: 4, Err: 5}, {Kind: 5}, {Kind: math.MaxInt, Err: -1},
		{Cell: cell(root, 1)}, {Cell: cell(root, 2), Kind: -9}, {Cell: cell(root, 2), Kind: 1}, {Cell: cell(root, 10)}, {Cell: cell(root, math.MaxInt), Err: -1},
		at(math.MinInt), at(math.MinInt, math.MinInt), at(math.MinInt, math.MaxInt), at(-2, 7), at(-1), at(-1, 0), at(0), at(0, -1), at(0, 0), at(0, 1, 5),
		at(1), at(1, math.MinInt), at(1, -1), at(1, 0), at(1, 0, -1), at(1, 0, 2), at(1, 0, 2, -3), at(1, 0, 2, 0), at(1, 0, 2, 0, 3), at(1, 0, 2, 0, 3, 0), at(1, 0, 2, 1), at(1, 0, 3, 0), at(1, 0, math.MaxInt, 0),
		at(1, 1), at(1, 1, 2), at(1, 2, 2, 0), at(1, 10), at(1, math.MaxInt), at(2), at(2, 0), at(10, 0), at(math.MaxInt, math.MinInt), at(math.MaxInt, math.MaxInt), at(math.MaxInt, math.MaxInt, 0),
	}
}

// P21.4: Compare, of each two of them.
func TestCompare(t *testing.T) {
	l := rising()
	for n, a := range l {
		for m, b := range l {
			if got := rules.Compare(a, b); got != cmp.Compare(n, m) {
				t.Errorf("Compare of %v, %v: %d", a, b, got)
			}
			// Rows alone count for nothing.
			for _, r := range []api.Row{row(1, 2), row(-1), row(math.MaxInt, 9, 9, 9)} {
				c, d := a, b
				c.Cell.Row, d.Cell.Row = row(7, 7, 7, 7), r
				if got := rules.Compare(c, d); got != cmp.Compare(n, m) {
					t.Errorf("Compare of %v, %v: %d", c, d, got)
				}
			}
		}
	}
	if rules.Compare(api.Fault{At: []int{}}, api.Fault{}) != 0 {
		t.Error("an empty list is not as nil")
	}
}

// P21.4: Same, field by field.
func TestSame(t *testing.T) {
	l := rising()
	for n, a := range l {
		for m, b := range l {
			if rules.Same(a, b) != (n == m) {
				t.Errorf("Same of %v, %v", a, b)
			}
		}
		for _, r := range []api.Row{row(1), row(0, 1), row(0, 0, 0, 1), row(-1)} {
			b := a
			b.Cell.Row = r
			if rules.Same(a, b) || rules.Same(b, a) || !rules.Same(b, b) {
				t.Errorf("Same of %v, %v", a, b)
			}
		}
		b := a
		b.At = append([]int{}, a.At...)
		if !rules.Same(a, b) {
			t.Errorf("%v is not the same as its copy", a)
		}
	}
	if !rules.Same(api.Fault{At: []int{}}, api.Fault{}) || !rules.Same(api.Fault{}, api.Fault{At: []int{}}) || rules.Same(api.Fault{At: []int{0}}, api.Fault{}) {
		t.Error("an empty list is not as nil")
	}
}

// P21.4: Text, of each kind of fault at each kind of place.
func TestText(t *testing.T) {
	l := schemaOf(t, tale).Sects()
	hold := func(l []api.Sect, f api.Fault, want string) {
		t.Helper()
		if got := rules.Text(l, f); got != want {
			t.Errorf("Text of %v: %q, not %q", f, got, want)
		}
	}
	a := cell(root, 1)
	for kind, want := range map[int]string{api.FtNeed: "needed .a", api.FtFalse: "false .a", api.FtBlank: "blank .a", 0: "? .a", -1: "? .a", 5: "? .a", math.MinInt: "? .a", math.MaxInt: "? .a"} {
		hold(l, api.Fault{Kind: kind, Cell: a}, want)
		hold(l, api.Fault{Kind: kind, Cell: a, Err: 3}, want)
	}
	for err, want := range map[int]string{0: "0", 1: "1", 3: "3", 5: "5", 6: "6", 10: "10", -1: "-1", math.MinInt: "-9223372036854775808", math.MaxInt: "9223372036854775807"} {
		hold(l, api.Fault{Kind: api.FtError, Err: err, Cell: a}, "error "+want+" .a")
	}
	at := func(section, item int, l ...int) api.Fault {
		return api.Fault{Kind: api.FtNeed, Cell: cell(row(section, 9, 9, 9), item), At: l}
	}
	hold(l, at(days, 0, 1, 0, 2, 1), "needed /jobs[0]/days[1].h")
	hold(l, at(parts, 2, 1, 10, 2, 0, 3, 1023), "needed /jobs[10]/days[0]/parts[1023].few")
	hold(l, at(carJobs, 0, 4, 3, 5, 2), "needed /cars[3]/jobs[2].k")
	// What stands in At, and of which section the cell's row is, hang on nothing of each other.
	hold(l, at(jobs, 3, 4, 0), "needed /cars[0].free")
	hold(l, at(jobs, 3), "needed .free")
	hold(l, at(jobs, 3, []int{}...), "needed .free")
	hold(l, at(jobs, 3, 0, 7), "needed /[7].free")
	hold(l, at(jobs, 3, 1, -1, 7, 0, -1, math.MinInt, math.MaxInt, math.MaxInt, math.MinInt, 3), "needed /jobs[-1]/?[0]/?[-9223372036854775808]/?[9223372036854775807]/?[3].free")
	hold(l, at(jobs, 3, 1), "needed .free")
	hold(l, at(jobs, 3, 1, 2, 2), "needed /jobs[2].free")
	hold(l, at(jobs, 3, 1, 2, 2, 0, 99), "needed /jobs[2]/days[0].free")
	for _, f := range []api.Fault{at(jobs, 4), at(jobs, -1), at(jobs, math.MinInt), at(jobs, math.MaxInt), at(yards, 0), at(7, 0), at(-1, 0), at(math.MinInt, 0), at(math.MaxInt, 0), at(0, 5)} {
		hold(l, f, "needed .?")
	}
	for _, none := range [][]api.Sect{nil, {}} {
		hold(none, at(0, 0), "needed .?")
		hold(none, at(1, 0, 0, 1, 2), "needed /?[1].?")
		hold(none, api.Fault{}, "? .?")
	}
}

// A list of sections that no definition has.
func TestTextRaw(t *testing.T) {
	l := []api.Sect{{Parent: 5, Name: "up", Items: []api.Item{{Name: ""}, {Name: "a b", Kind: 9}}}, {Parent: -7, Depth: 99}, {Name: "/x[", Items: []api.Item{{Name: ".y"}}}}
	f := api.Fault{Kind: api.FtError, Err: 2, At: []int{0, 1, 1, 2, 2, 3, 3, 4}, Cell: cell(row(0), 1)}
	if got := rules.Text(l, f); got != "error 2 /up[1]/[2]//x[[3]/?[4].a b" {
		t.Error(got)
	}
	f.Cell = cell(row(2), 0)
	if got := rules.Text(l, f); got != "error 2 /up[1]/[2]//x[[3]/?[4]..y" {
		t.Error(got)
	}
	f.Cell = cell(row(0), 0)
	if got := rules.Text(l, f); got != "error 2 /up[1]/[2]//x[[3]/?[4]." {
		t.Error(got)
	}
	f.Cell = cell(row(1), 0)
	if got := rules.Text(l, f); got != "error 2 /up[1]/[2]//x[[3]/?[4].?" {
		t.Error(got)
	}
}
