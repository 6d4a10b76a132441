package formula_test

import (
	"slices"
	"strconv"
	"testing"

	"excise/api"
	"excise/formula"
)

func wantNames(t *testing.T, x api.Expr, want ...string) {
	t.Helper()
	if l := formula.Names(x); !slices.Equal(l, want) {
		t.Errorf("Names is %q, not %q, of %+v", l, want, x)
	}
}

func wantCols(t *testing.T, x api.Expr, want ...api.ColKey) {
	t.Helper()
	if l := formula.Cols(x); !slices.Equal(l, want) {
		t.Errorf("Cols is %+v, not %+v, of %+v", l, want, x)
	}
}

// P17.2: names, rising, each once.
func TestNames(t *testing.T) {
	for s, want := range map[string][]string{
		"1":                                    nil,
		"a":                                    {"a"},
		"b + a":                                {"a", "b"},
		"a + a * a":                            {"a"},
		"if(blank(c), b, round(a, 1, up)) + c": {"a", "b", "c"},
		"tax(z) + sum(s.x) + rows(u)":          {"z"},
		"not (z = y and x < a10 or a9 > a)":    {"a", "a10", "a9", "x", "y", "z"},
		"- (- (- (a)))":                        {"a"},
		"ab + a + B + a_":                      {"B", "a", "a_", "ab"},
	} {
		wantNames(t, parsed(s), want...)
	}
	wantNames(t, api.Expr{})
	wantNames(t, name(""), "")
	wantNames(t, oper(1, name("\xff"), oper(1, name("é"), name(""))), "", "é", "\xff")
	wantNames(t, api.Expr{Kind: api.ExConst, Name: "a", Section: "b"})
	wantNames(t, api.Expr{Kind: api.ExAgg, Name: "a", Section: "b"})
	wantNames(t, api.Expr{Kind: api.ExBracket, Name: "a"})
	wantNames(t, api.Expr{Kind: 11, Name: "a"})
	wantNames(t, api.Expr{Kind: api.ExName, Name: "a", Op: api.AgRows, Section: "s"}, "a")
}

// P17.2: columns as Eval asks for them, by Section, then by Name, each once.
func TestCols(t *testing.T) {
	for s, want := range map[string][]api.ColKey{
		"1":                                {},
		"a + tax(b)":                       {},
		"sum(s.x)":                         {{Section: "s", Name: "x"}},
		"rows(s)":                          {{Section: "s"}},
		"sum(s.x) + min(s.x) + count(s.x)": {{Section: "s", Name: "x"}},
		"sum(s.x) + rows(s) + rows(s)":     {{Section: "s"}, {Section: "s", Name: "x"}},
		"max(t.a) + sum(s.z) + sum(s.b)":   {{Section: "s", Name: "b"}, {Section: "s", Name: "z"}, {Section: "t", Name: "a"}},
		"sum(sa.b) + sum(s.ab) + rows(sa)": {{Section: "s", Name: "ab"}, {Section: "sa"}, {Section: "sa", Name: "b"}},
		"if(rows(b) > 0, tax(sum(a.z)), round(- max(a.b), 1, up))": {{Section: "a", Name: "b"}, {Section: "a", Name: "z"}, {Section: "b"}},
	} {
		wantCols(t, parsed(s), want...)
	}
	wantCols(t, api.Expr{})
	wantCols(t, agg(0, "", ""), api.ColKey{})
	wantCols(t, oper(1, agg(api.AgRows, "s", "x"), agg(api.AgRows, "s", "y")), api.ColKey{Section: "s"})
	wantCols(t, oper(1, agg(api.AgRows, "s", "x"), agg(api.AgSum, "s", "")), api.ColKey{Section: "s"})
	wantCols(t, agg(99, "s", "x"), api.ColKey{Section: "s", Name: "x"})
	wantCols(t, agg(-1, "s", "x"), api.ColKey{Section: "s", Name: "x"})
	wantCols(t, api.Expr{Kind: api.ExName, Op: api.AgSum, Name: "a", Section: "s"})
	wantCols(t, api.Expr{Kind: 11, Op: api.AgSum, Name: "a", Section: "s"})
}

// P17.2: nodes are gone through whatever their Kinds are, and however many Args they have.
func TestGatherEverywhere(t *testing.T) {
	for _, kind := range append(slices.Clone(noKinds), kinds...) {
		for n := range 6 {
			x := api.Expr{Kind: kind, Name: "m", Section: "s"}
			names, cols := []string{}, []api.ColKey{}
			if kind == api.ExName {
				names = append(names, "m")
			}
			if kind == api.ExAgg {
				cols = append(cols, api.ColKey{Section: "s", Name: "m"})
			}
			for i := range n {
				x.Args = append(x.Args, oper(1, name("n"+strconv.Itoa(i)), agg(api.AgSum, "t"+strconv.Itoa(i), "c")))
				names = append(names, "n"+strconv.Itoa(i))
				cols = append(cols, api.ColKey{Section: "t" + strconv.Itoa(i), Name: "c"})
			}
			wantNames(t, x, names...)
			wantCols(t, x, cols...)
			if got := formula.Nodes(x); got != 1+3*n {
				t.Errorf("Nodes is %d, not %d", got, 1+3*n)
			}
		}
	}
}

// P17.2: a leaf with Args within Args, at each depth.
func TestGatherDepths(t *testing.T) {
	x := name("n0")
	want := []string{"n0"}
	for n := 1; n < 9; n++ {
		x = api.Expr{Kind: api.ExName, Name: "n" + strconv.Itoa(n), Args: []api.Expr{x, {Kind: api.ExConst, Args: []api.Expr{x}}}}
		want = append(want, "n"+strconv.Itoa(n))
		wantNames(t, x, want...)
	}
}

// P17.2: how many nodes there are.
func TestNodes(t *testing.T) {
	for s, want := range map[string]int{"1": 1, "a": 1, "a + 1": 3, "a + a": 3, "- a": 2, "not (a < b)": 4, "if(a, b, c)": 4, "tax(sum(s.x))": 2, "rows(s)": 1, "if(blank(a), 0, a * 0.25)": 7} {
		if n := formula.Nodes(parsed(s)); n != want {
			t.Errorf("Nodes of %q is %d, not %d", s, n, want)
		}
	}
	if n := formula.Nodes(api.Expr{}); n != 1 {
		t.Error("Nodes of a zero expression is", n)
	}
}

// R3: what is told is nobody's else.
func TestGatherOwn(t *testing.T) {
	x := parsed("b + a + sum(t.x) + sum(s.x)")
	names, cols := formula.Names(x), formula.Cols(x)
	clear(names)
	clear(cols)
	wantNames(t, x, "a", "b")
	wantCols(t, x, api.ColKey{Section: "s", Name: "x"}, api.ColKey{Section: "t", Name: "x"})
}
