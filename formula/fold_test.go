package formula_test

import (
	"slices"
	"testing"

	"excise/api"
	"excise/formula"
	"excise/grammar"
)

// P17.3: whole formulas.
func TestFold(t *testing.T) {
	tables := []api.Table{table("tax", "0 0 0.1; 100 10 0.2")}
	for s, want := range map[string]string{
		"1 + 2":                                  "3",
		"a * (1 + 2)":                            "a * 3",
		"(1 + 2) * a":                            "3 * a",
		"a + 1 + 2":                              "a + 1 + 2", // it is (a + 1) + 2
		"a + (1 + 2 * 3)":                        "a + 7",
		"if(1 < 2, a, b)":                        "a",
		"if(1 > 2, a, b)":                        "b",
		"if(true, a + (1 + 1), b)":               "a + 2",
		"if(a, 1 + 1, 2 + 2)":                    "if(a, 2, 4)",
		"if(a = a, 1, 2)":                        "if(a = a, 1, 2)",
		"if(true, 1, 2)":                         "1",
		"if(if(true, false, a), b, if(f, 1, 2))": "if(f, 1, 2)",
		"not true or f":                          "false or f",
		"tax(50)":                                "5.0",
		"tax(a) + tax(150.5)":                    "tax(a) + 20.10",
		"round(2.555, 2, half_up) + a":           "2.56 + a",
		"round(a, 2, half_up)":                   "round(a, 2, half_up)",
		"blank(1)":                               "false",
		"blank(\"x\")":                           "false",
		"blank(a)":                               "blank(a)",
		"sum(s.x) + rows(s)":                     "sum(s.x) + rows(s)",
		"sum(s.x) * (2 * 2)":                     "sum(s.x) * 4",
		"a":                                      "a",
		"\"x\" = \"x\"":                          "true",
		"a and (true and true)":                  "a and true",
	} {
		wantFold(t, parsed(s), parsed(want), tables...)
	}
	wantFold(t, parsed("- 1"), is("-1"))
	wantFold(t, parsed("- (- 1)"), is("1"))
	wantFold(t, parsed("not 1"), is("!2"))
	wantFold(t, parsed("1 + true"), is("!2"))
	wantFold(t, oper(api.OpAdd, name("a"), oper(api.OpMul, is(most), is(most))), oper(api.OpAdd, name("a"), is("!1")))
	wantFold(t, parsed("tax(- 1)"), is("!5"), tables...)
}

// P17.3: without tables a bracket of a constant comes to EvType; of several of one name the first one counts.
func TestFoldTables(t *testing.T) {
	x := lookup("u", is("5"))
	wantFold(t, x, is("!2"))
	wantFold(t, x, is("!2"), table("t", "0 1 0"))
	wantFold(t, x, is("!2"), []api.Table{}...)
	wantFold(t, x, is("2"), table("t", "0 1 0"), table("u", "0 2 0"), table("u", "0 3 0"))
	wantFold(t, x, is("!2"), api.Table{Name: "u"}, table("u", "0 3 0"))
	wantFold(t, lookup("u", is("blank")), is("!3"))
	wantFold(t, lookup("u", name("a")), lookup("u", name("a")), table("u", "0 3 0"))
}

// P17.3: each Kind over constants, with each number of Args: only a node with the Args that it must have is reckoned.
func TestFoldArgs(t *testing.T) {
	for _, kind := range append(slices.Clone(noKinds), kinds...) {
		for n := range 6 {
			inner := oper(api.OpAdd, is("1"), is("2"))
			x := api.Expr{Kind: kind, Op: api.OpAdd, Name: "a", Section: "s", Value: of("5"), Scale: 2, Policy: api.HalfUp, Args: slices.Repeat([]api.Expr{inner}, n)}
			want := x
			want.Args = slices.Repeat([]api.Expr{is("3")}, n)
			need, ok := needs[kind]
			if ok && n == need && kind != api.ExName && kind != api.ExAgg {
				want = constant(formula.Eval(x, api.Env{}))
			}
			wantFold(t, x, want)
		}
	}
}

// P17.3: constants: what else they hold goes, what value.Check refuses comes to EvType; those with Args are none.
func TestFoldConst(t *testing.T) {
	for _, v := range good() {
		wantFold(t, constant(v), constant(v))
		wantFold(t, api.Expr{Kind: api.ExConst, Op: 3, Name: "a", Section: "s", Value: v, Scale: 4, Policy: 5, Args: []api.Expr{}}, constant(v))
	}
	for _, v := range refused() {
		wantFold(t, constant(v), is("!2"))
		wantFold(t, node(api.ExIf, constant(v), name("a"), name("b")), node(api.ExIf, is("!2"), name("a"), name("b")))
	}
	odd := api.Expr{Kind: api.ExConst, Op: 3, Name: "a", Section: "s", Value: of("?"), Scale: 4, Policy: 5, Args: []api.Expr{oper(api.OpAdd, is("1"), is("1"))}}
	kept := odd
	kept.Args = []api.Expr{is("2")}
	wantFold(t, odd, kept)
	wantFold(t, node(api.ExNeg, odd), node(api.ExNeg, kept))
	wantFold(t, oper(api.OpAdd, is("1"), odd), oper(api.OpAdd, is("1"), kept))
	wantFold(t, oper(api.OpAdd, odd, is("1")), oper(api.OpAdd, kept, is("1")))
	held := api.Expr{Kind: api.ExConst, Value: of("true"), Args: []api.Expr{is("1")}}
	wantFold(t, node(api.ExIf, held, is("1"), is("2")), node(api.ExIf, held, is("1"), is("2")))
	wantFold(t, node(api.ExIf, name("a"), is("1"), is("2")), node(api.ExIf, name("a"), is("1"), is("2")))
}

// P17.3: an if whose first Arg is a flag is what the Arg that is taken folds to; each other one stays or is reckoned.
func TestFoldIf(t *testing.T) {
	three := oper(api.OpAdd, is("1"), is("2"))
	a, b := oper(api.OpAdd, name("a"), three), oper(api.OpSub, name("b"), three)
	foldedA, foldedB := oper(api.OpAdd, name("a"), is("3")), oper(api.OpSub, name("b"), is("3"))
	wantFold(t, node(api.ExIf, is("true"), a, b), foldedA)
	wantFold(t, node(api.ExIf, is("false"), a, b), foldedB)
	for _, s := range []string{"1", "'true'", "blank", "!5"} {
		wantFold(t, node(api.ExIf, is(s), a, b), node(api.ExIf, is(s), foldedA, foldedB))
		want := map[string]string{"1": "!2", "'true'": "!2", "blank": "!3", "!5": "!5"}[s]
		wantFold(t, node(api.ExIf, is(s), is("7"), three), is(want))
	}
	wantFold(t, node(api.ExIf, is("true"), a), node(api.ExIf, is("true"), foldedA))
	wantFold(t, node(api.ExIf, is("true"), a, b, a), node(api.ExIf, is("true"), foldedA, foldedB, foldedA))
	wantFold(t, node(api.ExIf, is("true"), is("?"), b), is("!2"))
	wantFold(t, node(api.ExIf, is("false"), a, is("?")), is("!2"))
	wantFold(t, node(api.ExIf, node(api.ExNot, is("true")), a, is("4")), is("4"))
	wantFold(t, node(api.ExIf, is("true"), node(api.ExIf, is("false"), a, node(api.ExIf, is("true"), b, a)), a), foldedB)
	// A wrong node that is taken stays as it is.
	wrong := api.Expr{Kind: 77, Op: 1, Name: "n", Section: "s", Value: of("?"), Scale: -1, Policy: -1, Args: []api.Expr{three}}
	kept := wrong
	kept.Args = []api.Expr{is("3")}
	wantFold(t, node(api.ExIf, is("true"), wrong, a), kept)
	wantFold(t, wrong, kept)
}

// P17.3: a node that reads keeps all its fields.
func TestFoldKeeps(t *testing.T) {
	for _, kind := range []int{api.ExName, api.ExAgg} {
		x := api.Expr{Kind: kind, Op: api.AgRows, Name: "n", Section: "s", Value: of("?"), Scale: -1, Policy: 99}
		wantFold(t, x, x)
		for _, around := range []api.Expr{node(api.ExNeg, x), node(api.ExBlank, x), oper(api.OpEq, x, x), node(api.ExIf, x, x, x), round(1, 2, x), lookup("t", x)} {
			around.Value, around.Section = of("!5"), "around"
			wantFold(t, around, around)
		}
	}
}

// R3: Fold writes to nothing that is handed in, and shares nothing with it.
func TestFoldOwn(t *testing.T) {
	room := make([]api.Expr, 0, 4)
	room = append(room, is("1"), is("2"), is("3"), is("4"))
	x := node(api.ExIf, name("a"), oper(api.OpAdd, name("b"), oper(api.OpAdd, is("1"), is("1"))), node(api.ExIf, is("true"), node(api.ExNeg, name("c")), is("1")))
	x.Args = append(x.Args, api.Expr{Kind: api.ExName, Name: "d", Args: room[:0]}, api.Expr{Kind: api.ExConst, Args: room[:2]}, node(99, agg(api.AgSum, "s", "x")))
	tables := []api.Table{table("t", "0 0 0.1; 5 1 1")}
	keptX, keptTables := copied(x), []api.Table{table("t", "0 0 0.1; 5 1 1")}
	y := formula.Fold(x, tables...)
	keptY := copied(y)
	if !grammar.SameExpr(x, keptX) || !sameTables(tables, keptTables) {
		t.Error("Fold has changed what was handed in")
	}
	spoil(y)
	if !grammar.SameExpr(x, keptX) {
		t.Error("a change of what Fold answers changes what was handed in")
	}
	if !slices.EqualFunc(room, []api.Expr{is("1"), is("2"), is("3"), is("4")}, grammar.SameExpr) {
		t.Error("what Fold answers has room of what was handed in")
	}
	z := formula.Fold(x, tables...)
	spoil(x)
	if !grammar.SameExpr(z, keptY) {
		t.Error("a change of what was handed in changes what Fold answered")
	}
}
