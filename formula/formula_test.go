package formula_test

import (
	"math"
	"slices"
	"strconv"
	"testing"
	"time"

	"excise/api"
	"excise/formula"
	"excise/summary"
	"excise/value"
)

// column is the summary of values at a scale.
func column(scale int, values ...string) api.Col {
	var l []api.Sum
	for _, s := range values {
		l = append(l, summary.Of(of(s), scale))
	}
	return api.Col{Sum: summary.Join(l...), Scale: scale}
}

// The chapter's examples.
func TestExamples(t *testing.T) {
	x := parsed("if(blank(a), 0, a * 0.25)")
	wantEval(t, x, holding("a", "10.00"), of("2.5000"))
	wantEval(t, x, api.Env{}, of("0"))
	over := api.Env{Cols: map[api.ColKey]api.Col{{Section: "s", Name: "x"}: column(0)}}
	for _, env := range []api.Env{over, {}} {
		wantEval(t, parsed("sum(s.x)"), env, of("0"))
		wantEval(t, parsed("min(s.x)"), env, of("!4"))
		wantEval(t, parsed("max(s.x)"), env, of("!4"))
		wantEval(t, parsed("count(s.x)"), env, of("0"))
		wantEval(t, parsed("rows(s)"), env, of("0"))
	}
}

// P17.1: whole formulas.
func TestEval(t *testing.T) {
	env := holding("a", "2.50", "b", "4", "f", "true", "s", "'x'", "n", "blank", "e", "!5")
	env.Cols = map[api.ColKey]api.Col{{Section: "k", Name: "m"}: column(1, "1.5", "blank", "2.0"), {Section: "k"}: column(0, "blank", "blank", "blank")}
	env.Tables = []api.Table{table("tax", "0 0 0.1; 100 10 0.2")}
	for s, want := range map[string]string{
		"a + b * 2":                        "10.50",
		"(a + b) * 2":                      "13.00",
		"- a - b":                          "-6.50",
		"not f":                            "false",
		"a < b and f":                      "true",
		"a > b or not f":                   "false",
		"s = \"x\"":                        "true",
		"s != \"x\"":                       "false",
		"a >= 2.5":                         "true",
		"round(a, 0, half_up)":             "3",
		"round(a, 0, half_even)":           "2",
		"if(f, a, b)":                      "2.50",
		"if(not f, a, b)":                  "4",
		"if(f, a, e)":                      "2.50",
		"if(f, e, a)":                      "!5",
		"blank(n)":                         "true",
		"blank(nobody)":                    "true",
		"blank(s)":                         "false",
		"blank(e)":                         "!5",
		"n":                                "blank",
		"nobody":                           "blank",
		"nobody + 1":                       "!3",
		"e + nobody":                       "!5",
		"nobody + e":                       "!3",
		"s + 1":                            "!2",
		"sum(k.m) + 1":                     "4.5",
		"count(k.m)":                       "2",
		"rows(k)":                          "3",
		"min(k.m)":                         "1.5",
		"max(k.m)":                         "2.0",
		"tax(50)":                          "5.0",
		"tax(150.5)":                       "20.10",
		"tax(sum(k.m) * 100)":              "60.00",
		"tax(- 1)":                         "!5",
		"other(1)":                         "!2",
		"round(tax(a) * 0.25, 2, half_up)": "0.06",
	} {
		wantEval(t, parsed(s), env, of(want))
	}
}

// P17.1: each Kind with each number of Args: another one than is told comes to EvType, whatever the node holds.
func TestEvalArgs(t *testing.T) {
	env := holding("a", "1", "f", "true")
	env.Tables = []api.Table{table("a", "0 7 0")}
	// The Args are such that a node of any Kind would come to something else than EvType.
	args := map[int][]api.Expr{
		api.ExNot: {is("true"), is("true"), is("true"), is("true"), is("true")},
		api.ExIf:  {is("true"), is("1"), is("2"), is("3"), is("4")},
	}
	whole := map[int]string{
		api.ExConst: "5", api.ExName: "1", api.ExNeg: "-1", api.ExNot: "false", api.ExOp: "2",
		api.ExIf: "1", api.ExRound: "1.00", api.ExBracket: "7", api.ExBlank: "false", api.ExAgg: "0",
	}
	for _, kind := range kinds {
		from := args[kind]
		if from == nil {
			from = []api.Expr{is("1"), is("1"), is("1"), is("1"), is("1")}
		}
		for n := range len(from) + 1 {
			x := api.Expr{Kind: kind, Op: api.OpAdd, Name: "a", Section: "s", Value: of("5"), Scale: 2, Policy: api.HalfUp, Args: from[:n]}
			if kind == api.ExAgg {
				x.Op = api.AgSum
			}
			want := of("!2")
			if n == needs[kind] {
				want = of(whole[kind])
			}
			wantEval(t, x, env, want)
		}
		wantEval(t, api.Expr{Kind: kind, Op: api.OpAdd, Name: "f", Value: of("!1"), Args: make([]api.Expr, 1000)}, env, of("!2"))
	}
}

// P17.1: an error, or a blank, within Args that a node should not have, counts for nothing.
func TestEvalArgsHoldErrors(t *testing.T) {
	for _, kind := range kinds {
		for n := range 5 {
			if n == needs[kind] {
				continue
			}
			for _, s := range []string{"!1", "!5", "blank", "?"} {
				wantEval(t, api.Expr{Kind: kind, Op: api.OpAdd, Value: of("!4"), Args: slices.Repeat([]api.Expr{is(s)}, n)}, api.Env{}, of("!2"))
			}
		}
	}
}

// P17.1: Kinds that there are not.
func TestEvalNoKind(t *testing.T) {
	env := holding("a", "1")
	for _, kind := range noKinds {
		for n := range 5 {
			args := slices.Repeat([]api.Expr{is("1")}, n)
			wantEval(t, api.Expr{Kind: kind, Args: args}, env, of("!2"))
			wantEval(t, api.Expr{Kind: kind, Op: api.OpAdd, Name: "a", Section: "a", Value: of("1"), Scale: 1, Policy: api.Up, Args: args}, env, of("!2"))
			wantEval(t, api.Expr{Kind: kind, Value: of("!5"), Args: slices.Repeat([]api.Expr{is("!1")}, n)}, env, of("!2"))
		}
	}
	wantEval(t, api.Expr{}, api.Env{}, of("!2"))
}

// P17.1: constants and names.
func TestEvalConstAndName(t *testing.T) {
	for _, v := range good() {
		wantEval(t, constant(v), api.Env{}, v)
		for _, s := range []string{"a", "", "no name", "\xff"} {
			wantEval(t, name(s), api.Env{Names: map[string]api.Value{s: v}}, v)
		}
	}
	for _, v := range refused() {
		wantEval(t, constant(v), api.Env{}, of("!2"))
		for _, s := range []string{"a", ""} {
			wantEval(t, name(s), api.Env{Names: map[string]api.Value{s: v}}, of("!2"))
		}
	}
	for _, env := range []api.Env{{}, {Names: map[string]api.Value{}}, holding("b", "1"), holding("A", "1")} {
		wantEval(t, name("a"), env, of("blank"))
		wantEval(t, name(""), env, of("blank"))
	}
	// What else a node has counts for nothing.
	wantEval(t, api.Expr{Kind: api.ExConst, Op: 5, Name: "a", Section: "a", Value: of("1"), Scale: 9, Policy: 9}, holding("a", "2"), of("1"))
	wantEval(t, api.Expr{Kind: api.ExName, Op: api.AgRows, Name: "a", Section: "b", Value: of("1"), Scale: 9, Policy: 9}, holding("a", "2", "b", "3"), of("2"))
}

// P17.1: nodes of one, two and three Args come to what value says of each.
func TestEvalNodes(t *testing.T) {
	all := append(good(), refused()...)
	for _, a := range all {
		x := constant(a)
		asked := formula.Eval(x, api.Env{})
		wantEval(t, node(api.ExNeg, x), api.Env{}, value.Neg(asked))
		wantEval(t, node(api.ExNot, x), api.Env{}, value.Not(asked))
		wantEval(t, node(api.ExBlank, x), api.Env{}, value.Blank(asked))
		for _, b := range all {
			for _, op := range slices.Concat(ops, aggs, noOps) {
				wantEval(t, oper(op, x, constant(b)), api.Env{}, value.Op(op, a, b))
			}
			wantEval(t, node(api.ExIf, x, constant(b), is("7")), api.Env{}, value.If(a, b, of("7")))
			wantEval(t, node(api.ExIf, x, is("7"), constant(b)), api.Env{}, value.If(a, of("7"), b))
		}
	}
}

// P17.1: which of two errors goes on.
func TestEvalErrorsGoOn(t *testing.T) {
	env := holding("low", "!5", "none", "!4", "t", "'a'")
	for s, want := range map[string]string{
		"low + none": "!5", "none + low": "!4", "1 + low": "!5", "low + 1": "!5", "t + low": "!5", "t + nobody": "!3", "nobody + t": "!3", "t + 1": "!2", "1 + t": "!2",
		"nobody + low": "!3", "low + nobody": "!5", "low and none": "!5", "low = none": "!5", "low < none": "!5", "nobody = nobody": "!3",
		"if(low, none, 1)": "!5", "if(nobody, low, low)": "!3", "if(1, low, low)": "!2", "if(t, low, low)": "!2", "if(true, nobody, low)": "blank", "if(false, low, none)": "!4",
		"- low": "!5", "not low": "!5", "- nobody": "!3", "not nobody": "!3", "- t": "!2", "not 1": "!2", "round(low, 2, up)": "!5", "round(nobody, 2, up)": "!3", "round(t, 2, up)": "!2",
		"blank(low)": "!5", "blank(low + none)": "!5", "blank(nobody + 1)": "!3",
	} {
		wantEval(t, parsed(s), env, of(want))
	}
	wantEval(t, oper(99, name("low"), name("none")), env, of("!5"))
	wantEval(t, oper(99, is("1"), is("1")), env, of("!2"))
	wantEval(t, oper(api.OpAdd, is("?"), name("low")), env, of("!2"))
	wantEval(t, oper(api.OpAdd, name("low"), is("?")), env, of("!5"))
	wantEval(t, oper(api.OpAdd, is(most), is("1")), env, of("!1"))
	wantEval(t, oper(api.OpMul, is(most), is(most)), env, of("!1"))
}

// P17.1: rounding, with scales and policies that there are not.
func TestEvalRound(t *testing.T) {
	for scale, want := range []string{"3", "2.6", "2.56", "2.555", "2.5550"} {
		wantEval(t, round(scale, api.HalfUp, is("2.555")), api.Env{}, of(want))
	}
	for n, want := range []string{"-2.6", "-2.6", "-2.5", "-2.6", "-2.6"} {
		wantEval(t, round(1, policies[n], is("-2.55")), api.Env{}, of(want))
	}
	for _, scale := range noScales {
		wantEval(t, round(scale, api.HalfUp, is("1")), api.Env{}, of("!2"))
		wantEval(t, round(scale, api.HalfUp, is("!5")), api.Env{}, of("!5"))
	}
	for _, policy := range noPolicies {
		wantEval(t, round(1, policy, is("1")), api.Env{}, value.Round(of("1"), 1, policy))
		wantEval(t, round(0, policy, is("1.5")), api.Env{}, of("!2"))
		wantEval(t, round(0, policy, name("a")), api.Env{}, of("!3"))
	}
	wantEval(t, round(1, api.Up, is(most)), api.Env{}, of("!1"))
}

// P17.1: bracket tables: the argument is asked first, then the table's name, then the table.
func TestEvalBracket(t *testing.T) {
	env := holding("a", "50", "low", "!5", "over", "!1", "t", "'x'", "f", "true")
	falling := table("falling", "10 0 0; 5 0 0")
	long := api.Table{Name: "long"}
	for n := range api.MaxSteps + 1 {
		long.Steps = append(long.Steps, api.Step{From: dec(strconv.Itoa(n))})
	}
	just := api.Table{Name: "just", Steps: long.Steps[:api.MaxSteps]}
	wrong := table("wrong", "0 0 0")
	wrong.Steps[0].Rate = api.Dec{Neg: true}
	great := table("great", "0 "+most+" 1")
	env.Tables = []api.Table{table("tax", "0 0 0.1; 100 10 0.2"), table("twice", "0 1 0"), table("twice", "0 2 0"), {Name: "empty"}, falling, long, just, wrong, great, table("", "0 3 0")}
	for _, c := range []struct{ table, of, want string }{
		{"tax", "50", "5.0"}, {"tax", "100", "10.0"}, {"tax", "0", "0.0"}, {"tax", "150.5", "20.10"}, {"tax", "-0.01", "!5"}, {"tax", "-1", "!5"},
		{"tax", "blank", "!3"}, {"tax", "'x'", "!2"}, {"tax", "true", "!2"}, {"tax", "!1", "!1"}, {"tax", "!3", "!3"}, {"tax", "!5", "!5"}, {"tax", "?", "!2"},
		{"nobody", "50", "!2"}, {"nobody", "blank", "!3"}, {"nobody", "!5", "!5"}, {"nobody", "'x'", "!2"}, {"nobody", "-1", "!2"}, {"Tax", "50", "!2"},
		{"twice", "5", "1"}, {"", "5", "3"},
		{"empty", "5", "!2"}, {"empty", "!4", "!4"}, {"falling", "20", "!2"}, {"falling", "0", "!2"}, {"long", "5", "!2"}, {"long", "-1", "!2"}, {"just", "5", "0"}, {"wrong", "5", "!2"}, {"wrong", "-5", "!2"},
		{"great", "0", most}, {"great", "1", "!1"}, {"great", "-1", "!5"},
	} {
		wantEval(t, lookup(c.table, is(c.of)), env, of(c.want))
	}
	wantEval(t, lookup("tax", name("a")), env, of("5.0"))
	wantEval(t, lookup("tax", lookup("tax", name("a"))), env, of("0.50"))
	wantEval(t, lookup("tax", lookup("nobody", name("low"))), env, of("!5"))
	wantEval(t, oper(api.OpAdd, lookup("twice", is("1")), lookup("nobody", is("1"))), env, of("!2"))
	wantEval(t, lookup("tax", is("1")), api.Env{}, of("!2"))
	wantEval(t, lookup("", is("1")), api.Env{}, of("!2"))
	// A second table of a name counts for nothing, even if the first one may not be.
	wantEval(t, lookup("u", is("1")), api.Env{Tables: []api.Table{{Name: "u"}, table("u", "0 2 0")}}, of("!2"))
}

// P17.1: aggregates, over columns that are there, that are not, and that no call made.
func TestEvalAgg(t *testing.T) {
	env := api.Env{Cols: map[api.ColKey]api.Col{
		{Section: "s", Name: "x"}:     column(2, "1.25", "-3.00", "blank", "2.00"),
		{Section: "s"}:                column(0, "blank", "blank", "blank", "blank", "blank"),
		{Section: "s", Name: "bad"}:   column(0, "1", "!5", "!3", "blank"),
		{Section: "s", Name: "texts"}: column(0, "'a'", "'b'", "blank"),
		{Name: "x"}:                   column(0, "77"),
		{Section: "great", Name: "x"}: column(0, most, most),
	}}
	for s, want := range map[string]string{
		"sum(s.x)": "0.25", "count(s.x)": "3", "min(s.x)": "-3.00", "max(s.x)": "2.00", "rows(s)": "5",
		"sum(s.bad)": "!3", "count(s.bad)": "1", "min(s.bad)": "!3", "max(s.bad)": "!3",
		"sum(s.texts)": "0", "count(s.texts)": "2", "min(s.texts)": "!4",
		"sum(s.y)": "0", "count(s.y)": "0", "min(s.y)": "!4", "max(s.y)": "!4", "rows(u)": "0", "sum(u.x)": "0",
		"sum(great.x)": "!1", "max(great.x)": most, "rows(great)": "0",
	} {
		wantEval(t, parsed(s), env, of(want))
	}
	wantEval(t, agg(api.AgSum, "", "x"), env, of("77"))
	wantEval(t, agg(api.AgRows, "", "x"), env, of("0"))
	for _, own := range []string{"x", "", "nobody"} { // AgRows with a Name of its own, columns under both names
		wantEval(t, agg(api.AgRows, "s", own), env, of("5"))
	}
	for _, op := range append(slices.Clone(noOps), ops...) {
		wantEval(t, agg(op, "s", "x"), env, of("!2"))
		wantEval(t, agg(op, "nobody", "x"), env, of("!2"))
	}
}

// P17.1: a column that no call made: what may not be comes to EvType.
func TestEvalAggStrange(t *testing.T) {
	key := api.ColKey{Section: "s", Name: "x"}
	minus := api.Dec{Neg: true}
	five := api.Wide{5}
	for _, c := range []struct {
		op   int
		col  api.Col
		want api.Value
	}{
		{api.AgSum, api.Col{Sum: api.Sum{Err: 6}}, of("!2")},
		{api.AgSum, api.Col{Sum: api.Sum{Err: -1}}, of("!2")},
		{api.AgSum, api.Col{Sum: api.Sum{Err: math.MinInt}}, of("!2")},
		{api.AgMin, api.Col{Sum: api.Sum{Err: 99, Some: true}}, of("!2")},
		{api.AgMax, api.Col{Sum: api.Sum{Err: api.EvLow}}, of("!5")},
		{api.AgMin, api.Col{Sum: api.Sum{Some: true, Min: minus}}, of("!2")},
		{api.AgMax, api.Col{Sum: api.Sum{Some: true, Max: api.Dec{Scale: 19}}}, of("!2")},
		{api.AgMin, api.Col{Sum: api.Sum{Some: true, Min: dec("1.5"), Max: minus}, Scale: 7}, of("1.5")},
		{api.AgMax, api.Col{Sum: api.Sum{Some: true, Min: minus, Max: dec("0.1")}, Scale: -7}, of("0.1")},
		{api.AgMin, api.Col{Sum: api.Sum{Min: dec("1")}}, of("!4")},
		{api.AgSum, api.Col{Sum: api.Sum{Total: five}, Scale: 18}, of("0.000000000000000005")},
		{api.AgSum, api.Col{Sum: api.Sum{Total: five}, Scale: 19}, of("!1")},
		{api.AgSum, api.Col{Sum: api.Sum{Total: five}, Scale: -1}, of("!1")},
		{api.AgSum, api.Col{Sum: api.Sum{Total: five}, Scale: math.MaxInt}, of("!1")},
		{api.AgSum, api.Col{Sum: api.Sum{Total: api.Wide{0, 0, 0, 0, 1}}}, of("!1")},
		{api.AgSum, api.Col{Sum: api.Sum{Total: api.Wide{full, full, full, full, full}}}, of("-1")},
		{api.AgCount, api.Col{Sum: api.Sum{Filled: -3, Err: 99}, Scale: 99}, of("-3")},
		{api.AgCount, api.Col{Sum: api.Sum{Filled: math.MinInt}}, of("-9223372036854775808")},
		{api.AgRows, api.Col{Sum: api.Sum{Rows: 9}}, of("0")}, // it stands under another name
		{17, api.Col{Sum: api.Sum{Rows: 9}}, of("!2")},
	} {
		wantEval(t, agg(c.op, "s", "x"), api.Env{Cols: map[api.ColKey]api.Col{key: c.col}}, c.want)
	}
	rows := api.Env{Cols: map[api.ColKey]api.Col{{Section: "s"}: {Sum: api.Sum{Rows: math.MaxInt, Err: 99}, Scale: 99}}}
	wantEval(t, agg(api.AgRows, "s", "x"), rows, of("9223372036854775807"))
	wantEval(t, agg(api.AgSum, "s", ""), rows, of("!2"))
}

// P17.4: lines and checks, of each Type and Policy, and items that are neither.
func TestItem(t *testing.T) {
	env := holding("n", "2.55", "m", "-2.55", "f", "true", "t", "'a'", "e", "!5")
	for _, c := range []struct {
		kind, of, scale, policy int
		expr, want              string
	}{
		{api.ItLine, api.VNum, 1, api.HalfUp, "n", "2.6"}, {api.ItLine, api.VNum, 1, api.HalfEven, "n", "2.6"}, {api.ItLine, api.VNum, 1, api.Down, "n", "2.5"},
		{api.ItLine, api.VNum, 1, api.Up, "n", "2.6"}, {api.ItLine, api.VNum, 1, api.Floor, "m", "-2.6"}, {api.ItLine, api.VNum, 1, api.Down, "m", "-2.5"},
		{api.ItLine, api.VNum, 4, api.Up, "n", "2.5500"}, {api.ItLine, api.VNum, 2, api.Up, "n", "2.55"}, {api.ItLine, api.VNum, 0, api.Up, "n * n", "7"},
		{api.ItLine, api.VNum, 19, api.Up, "n", "!2"}, {api.ItLine, api.VNum, -1, api.Up, "n", "!2"}, {api.ItLine, api.VNum, 1, 0, "n", "!2"}, {api.ItLine, api.VNum, 1, 6, "n", "!2"},
		{api.ItLine, api.VNum, 2, api.Up, "f", "!2"}, {api.ItLine, api.VNum, 2, api.Up, "t", "!2"}, {api.ItLine, api.VNum, 2, api.Up, "e", "!5"}, {api.ItLine, api.VNum, 2, api.Up, "nobody", "blank"}, {api.ItLine, api.VNum, 2, api.Up, "nobody + 1", "!3"},
		{api.ItLine, api.VFlag, 0, 0, "f", "true"}, {api.ItLine, api.VFlag, 9, 9, "n < m", "false"}, {api.ItLine, api.VFlag, 0, 0, "n", "!2"}, {api.ItLine, api.VFlag, 0, 0, "nobody", "blank"}, {api.ItLine, api.VFlag, 0, 0, "e", "!5"},
		{api.ItLine, api.VText, 0, 0, "t", "'a'"}, {api.ItLine, api.VText, 0, 0, "n", "!2"}, {api.ItLine, api.VText, 0, 0, "f", "!2"}, {api.ItLine, api.VText, 0, 0, "e", "!5"},
		{api.ItLine, api.VBlank, 0, 0, "n", "!2"}, {api.ItLine, api.VBlank, 0, 0, "nobody", "blank"}, {api.ItLine, api.VErr, 0, 0, "e", "!5"}, {api.ItLine, api.VErr, 0, 0, "n", "!2"}, {api.ItLine, 9, 0, 0, "n", "!2"}, {api.ItLine, -1, 0, 0, "t", "!2"},
		{api.ItCheck, 0, 0, 0, "f", "true"}, {api.ItCheck, 0, 0, 0, "not f", "false"}, {api.ItCheck, api.VNum, 2, api.Up, "f", "true"}, {api.ItCheck, api.VText, 2, 99, "f", "true"},
		{api.ItCheck, api.VNum, 2, api.Up, "n", "!2"}, {api.ItCheck, api.VText, 0, 0, "t", "!2"}, {api.ItCheck, 0, 0, 0, "e", "!5"}, {api.ItCheck, 0, 0, 0, "nobody", "blank"}, {api.ItCheck, 0, 0, 0, "nobody > 0", "!3"},
	} {
		item := api.Item{Name: "i", Kind: c.kind, Type: api.Type{Kind: c.of, Scale: c.scale}, Need: true, Policy: c.policy, Expr: parsed(c.expr)}
		if v := formula.Item(item, env); v != of(c.want) {
			t.Errorf("%+v is %s, not %s", c, value.Text(v), c.want)
		}
	}
	for _, kind := range []int{math.MinInt, -1, 0, api.ItField, 4, math.MaxInt} {
		for _, x := range []string{"n", "e", "f", "nobody"} {
			if v := formula.Item(api.Item{Kind: kind, Type: api.Type{Kind: api.VNum}, Policy: api.Up, Expr: parsed(x)}, env); v != of("!2") {
				t.Errorf("an item of the Kind %d is %s", kind, value.Text(v))
			}
		}
	}
	if v := formula.Item(api.Item{}, api.Env{}); v != of("!2") {
		t.Error("a zero item is", value.Text(v))
	}
	if v := formula.Item(api.Item{Kind: api.ItCheck}, api.Env{}); v != of("!2") {
		t.Error("a check without an expression is", value.Text(v))
	}
}

// R1, the bound: expressions as deep as may be, and many nodes over many tables and names.
func TestDeepAndWide(t *testing.T) {
	deep := is("1")
	for range 1<<16 - 2 {
		deep = node(api.ExNeg, deep)
	}
	wantEval(t, deep, api.Env{}, of("1"))
	wantFold(t, deep, is("1"))
	if n := formula.Nodes(deep); n != 1<<16-1 {
		t.Error("Nodes is", n)
	}
	began := time.Now()
	const many = 1 << 17
	sum, env := is("0"), api.Env{}
	var l []api.Expr
	for n := range many {
		env.Tables = append(env.Tables, table("table"+strconv.Itoa(n), "0 1 0"))
		l = append(l, lookup("table"+strconv.Itoa(many-1-n/2), is("5")))
	}
	for len(l) > 1 {
		l = append(l[2:], oper(api.OpAdd, l[0], l[1]))
	}
	sum = l[0]
	wantEval(t, sum, env, of(strconv.Itoa(many)))
	wantFold(t, sum, is(strconv.Itoa(many)), env.Tables...)
	if took := time.Since(began); took > 20*time.Second {
		t.Error("it took", took)
	}
}
