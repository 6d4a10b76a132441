package formula_test

import (
	"math"
	"slices"
	"strconv"
	"strings"
	"testing"

	"excise/api"
	"excise/dectext"
	"excise/formula"
	"excise/grammar"
	"excise/value"
)

const (
	full = 1<<64 - 1
	most = "115792089237316195423570985008687907853269984665640564039457584007913129639935" // 2^256 - 1
)

var (
	kinds      = []int{api.ExConst, api.ExName, api.ExNeg, api.ExNot, api.ExOp, api.ExIf, api.ExRound, api.ExBracket, api.ExBlank, api.ExAgg}
	noKinds    = []int{math.MinInt, -1, 0, 11, 12, 99, math.MaxInt}
	ops        = []int{api.OpAdd, api.OpSub, api.OpMul, api.OpEq, api.OpNe, api.OpLt, api.OpLe, api.OpGt, api.OpGe, api.OpAnd, api.OpOr}
	aggs       = []int{api.AgSum, api.AgCount, api.AgMin, api.AgMax, api.AgRows}
	noOps      = []int{math.MinInt, -1, 0, 17, math.MaxInt}
	policies   = []int{api.HalfUp, api.HalfEven, api.Down, api.Up, api.Floor}
	noPolicies = []int{math.MinInt, -1, 0, 6, math.MaxInt}
	noScales   = []int{math.MinInt, -1, api.MaxScale + 1, math.MaxInt}
)

// needs is how many Args a node of each Kind must have.
var needs = map[int]int{
	api.ExConst: 0, api.ExName: 0, api.ExNeg: 1, api.ExNot: 1, api.ExOp: 2,
	api.ExIf: 3, api.ExRound: 1, api.ExBracket: 1, api.ExBlank: 1, api.ExAgg: 0,
}

// of is the value that a text of the tests says: ? is one that may not be, 'a' a text, !2 an error.
func of(s string) api.Value {
	switch {
	case s == "?":
		return api.Value{Kind: 9}
	case s == "blank":
		return api.Value{}
	case s == "true", s == "false":
		return api.Value{Kind: api.VFlag, Flag: s == "true"}
	case strings.HasPrefix(s, "!"):
		n, err := strconv.Atoi(s[1:])
		if err != nil {
			panic(s)
		}
		return bad(n)
	case strings.HasPrefix(s, "'"):
		return text(s[1 : len(s)-1])
	}
	return api.Value{Kind: api.VNum, Num: dec(s)}
}

func dec(s string) api.Dec {
	d, e := dectext.Parse(s)
	if e != api.OK {
		panic(s)
	}
	return d
}

func text(s string) api.Value { return api.Value{Kind: api.VText, Text: s} }

func bad(e int) api.Value { return api.Value{Kind: api.VErr, Err: e} }

// good are values that may be, of each kind.
func good() []api.Value {
	var list []api.Value
	for _, s := range []string{"blank", "true", "false", "!1", "!2", "!3", "!4", "!5", "0", "0.00", "1", "-1", "1.50", "-2.5", "0.000000000000000001", most, "-" + most, "''", "'a'", "'\x00\xff\"\\'"} {
		list = append(list, of(s))
	}
	return append(list, text(strings.Repeat("x", api.MaxText)), text(strings.Repeat("\x00", api.MaxText)))
}

// refused are values that may not be.
func refused() []api.Value {
	list := []api.Value{
		{Kind: api.VNum, Num: api.Dec{Neg: true}}, {Kind: api.VNum, Num: api.Dec{N: api.Nat{1}, Scale: -1}}, {Kind: api.VNum, Num: api.Dec{Scale: api.MaxScale + 1}},
		{Kind: api.VBlank, Flag: true}, {Kind: api.VBlank, Num: dec("1")}, {Kind: api.VBlank, Text: "a"}, {Kind: api.VBlank, Err: api.EvOver},
		{Kind: api.VFlag, Flag: true, Num: dec("1")}, {Kind: api.VFlag, Flag: true, Err: api.EvOver}, {Kind: api.VFlag, Text: "a"}, {Kind: api.VFlag, Flag: true, Text: "a"},
		{Kind: api.VNum, Num: dec("1"), Flag: true}, {Kind: api.VNum, Num: dec("1"), Text: "a"}, {Kind: api.VNum, Err: api.EvBlank},
		{Kind: api.VText, Text: "a", Num: dec("1")}, {Kind: api.VText, Flag: true}, {Kind: api.VErr, Err: api.EvOver, Flag: true}, {Kind: api.VErr, Err: api.EvLow, Text: "a"},
		text(strings.Repeat("x", api.MaxText+1)), text(strings.Repeat("\xff", 1<<12)),
	}
	for _, e := range []int{math.MinInt, -1, 0, api.EvLow + 1, math.MaxInt} {
		list = append(list, bad(e))
	}
	for _, kind := range []int{math.MinInt, -1, 5, math.MaxInt} {
		list = append(list, api.Value{Kind: kind}, api.Value{Kind: kind, Num: dec("1")}, api.Value{Kind: kind, Flag: true})
	}
	return list
}

func constant(v api.Value) api.Expr { return api.Expr{Kind: api.ExConst, Value: v} }

// is a constant that a text of the tests says.
func is(s string) api.Expr { return constant(of(s)) }

func name(s string) api.Expr { return api.Expr{Kind: api.ExName, Name: s} }

func node(kind int, args ...api.Expr) api.Expr { return api.Expr{Kind: kind, Args: args} }

func oper(op int, a, b api.Expr) api.Expr {
	return api.Expr{Kind: api.ExOp, Op: op, Args: []api.Expr{a, b}}
}

func round(scale, policy int, x api.Expr) api.Expr {
	return api.Expr{Kind: api.ExRound, Scale: scale, Policy: policy, Args: []api.Expr{x}}
}

func lookup(table string, x api.Expr) api.Expr {
	return api.Expr{Kind: api.ExBracket, Name: table, Args: []api.Expr{x}}
}

func agg(op int, section, item string) api.Expr {
	return api.Expr{Kind: api.ExAgg, Op: op, Section: section, Name: item}
}

// parsed is the expression that a definition's text would say.
func parsed(s string) api.Expr {
	x, _, e := grammar.Expr(s)
	if e != api.OK {
		panic(s)
	}
	return x
}

// table is a table whose steps a text says: From, Base and Rate of each, a ; between two.
func table(name, s string) api.Table {
	t := api.Table{Name: name}
	for _, words := range strings.Split(s, ";") {
		l := strings.Fields(words)
		if len(l) == 0 {
			break
		}
		t.Steps = append(t.Steps, api.Step{From: dec(l[0]), Base: dec(l[1]), Rate: dec(l[2])})
	}
	return t
}

// holding is an env with names of these values, one behind the other.
func holding(pairs ...string) api.Env {
	env := api.Env{Names: map[string]api.Value{}}
	for n := 0; n < len(pairs); n += 2 {
		env.Names[pairs[n]] = of(pairs[n+1])
	}
	return env
}

func wantEval(t *testing.T, x api.Expr, env api.Env, want api.Value) {
	t.Helper()
	if v := formula.Eval(x, env); v != want {
		t.Errorf("Eval is %s, not %s, of %+v", value.Text(v), value.Text(want), x)
	}
}

func wantFold(t *testing.T, x, want api.Expr, tables ...api.Table) {
	t.Helper()
	if y := formula.Fold(x, tables...); !grammar.SameExpr(y, want) {
		t.Errorf("Fold is %+v, not %+v, of %+v", y, want, x)
	}
}

// copied is an expression in memory of its own.
func copied(x api.Expr) api.Expr {
	var args []api.Expr
	for _, arg := range x.Args {
		args = append(args, copied(arg))
	}
	x.Args = args
	return x
}

// spoil writes to all that an expression's lists have room for.
func spoil(x api.Expr) {
	args := x.Args[:cap(x.Args)]
	for n := range args {
		spoil(args[n])
		args[n] = api.Expr{Kind: api.ExAgg, Op: 77, Name: "spoilt", Args: []api.Expr{{Kind: 5}}}
	}
}

func sameTables(a, b []api.Table) bool {
	return slices.EqualFunc(a, b, func(a, b api.Table) bool { return a.Name == b.Name && slices.Equal(a.Steps, b.Steps) })
}

// The tests' own lists must say what they are said to say, or they would hold nothing.
func TestLists(t *testing.T) {
	for _, v := range good() {
		if value.Check(v) != api.OK {
			t.Errorf("%+v may not be", v)
		}
	}
	for _, v := range refused() {
		if value.Check(v) == api.OK {
			t.Errorf("%+v may be", v)
		}
	}
}
