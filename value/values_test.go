package value_test

import (
	"math"
	"math/rand/v2"
	"strconv"
	"strings"
	"testing"

	"excise/api"
	"excise/decimal"
	"excise/dectext"
)

const (
	full    = 1<<64 - 1
	most    = "115792089237316195423570985008687907853269984665640564039457584007913129639935" // 2^256 - 1
	mostAt1 = "11579208923731619542357098500868790785326998466564056403945758400791312963993.5"
	least18 = "0.000000000000000001"
)

var (
	allOps     = []int{api.OpAdd, api.OpSub, api.OpMul, api.OpEq, api.OpNe, api.OpLt, api.OpLe, api.OpGt, api.OpGe, api.OpAnd, api.OpOr}
	noOps      = []int{math.MinInt, -1, 0, api.AgSum, api.AgCount, api.AgMin, api.AgMax, api.AgRows, 17, 99, math.MaxInt}
	policies   = []int{api.HalfUp, api.HalfEven, api.Down, api.Up, api.Floor}
	noPolicies = []int{math.MinInt, -1, 0, 6, math.MaxInt}
	noScales   = []int{math.MinInt, -1, api.MaxScale + 1, math.MaxInt}
	noKinds    = []int{math.MinInt, -1, 5, 9, math.MaxInt}
)

// of is the value that a text of the tests says: ? is one that may not be.
func of(s string) api.Value {
	switch {
	case s == "?":
		return api.Value{Kind: 9}
	case s == "blank":
		return api.Value{}
	case s == "true", s == "false":
		return flag(s == "true")
	case strings.HasPrefix(s, "!"):
		n, err := strconv.Atoi(s[1:])
		if err != nil {
			panic(s)
		}
		return bad(n)
	case strings.HasPrefix(s, "'"):
		return text(s[1 : len(s)-1])
	}
	d, e := dectext.Parse(s)
	if e != api.OK {
		panic(s)
	}
	return num(d)
}

func num(d api.Dec) api.Value { return api.Value{Kind: api.VNum, Num: d} }

func flag(b bool) api.Value { return api.Value{Kind: api.VFlag, Flag: b} }

func text(s string) api.Value { return api.Value{Kind: api.VText, Text: s} }

func bad(e int) api.Value { return api.Value{Kind: api.VErr, Err: e} }

// good are values that may be, of each kind.
func good() []api.Value {
	var list []api.Value
	for _, s := range []string{"blank", "true", "false", "!1", "!2", "!3", "!4", "!5",
		"0", "0.00", "0.000000000000000000", "1", "-1", "1.50", "1.5", "-1.50", "2", "2.5", "0.25", "0.5", "-0.5", "1.000000000000000000", least18, "-" + least18, "0.000000000000000003",
		most, "-" + most, mostAt1, "-" + mostAt1, "57896044618658097711785492504343953926634992332820282019728792003956564819968", "340282366920938463463374607431768211456", "340282366920938463463374607431768211455",
		"''", "'a'", "'b'", "'A'", "'1'", "'true'", "'blank'"} {
		list = append(list, of(s))
	}
	for _, s := range []string{"\"\\", "\x00\n\x7f\xff", "é", strings.Repeat("x", api.MaxText), strings.Repeat("\x00", api.MaxText)} {
		list = append(list, text(s))
	}
	return append(list, num(api.Dec{N: api.Nat{full, full, full, full}, Scale: api.MaxScale}), num(api.Dec{Neg: true, N: api.Nat{0, 0, 0, 1}, Scale: 9}))
}

// strays put something that is not zero into a field that a kind alone gives a meaning.
var strays = []struct {
	kind int
	put  func(v *api.Value)
}{
	{api.VNum, func(v *api.Value) { v.Num.N[0] = 1 }},
	{api.VNum, func(v *api.Value) { v.Num.N[3] = 1 }},
	{api.VNum, func(v *api.Value) { v.Num.Scale = 2 }},
	{api.VNum, func(v *api.Value) { v.Num.Neg = true }},
	{api.VFlag, func(v *api.Value) { v.Flag = true }},
	{api.VText, func(v *api.Value) { v.Text = "a" }},
	{api.VText, func(v *api.Value) { v.Text = "\x00" }},
	{api.VErr, func(v *api.Value) { v.Err = api.EvOver }},
	{api.VErr, func(v *api.Value) { v.Err = api.EvLow }},
	{api.VErr, func(v *api.Value) { v.Err = -1 }},
}

// refused are values that may not be, each for one reason.
func refused() []api.Value {
	var list []api.Value
	for _, own := range []string{"blank", "0", "1.50", "true", "false", "''", "'a'", "!1", "!5"} {
		for _, stray := range strays {
			v := of(own)
			if stray.kind != v.Kind {
				stray.put(&v)
				list = append(list, v)
			}
		}
	}
	for _, kind := range noKinds {
		list = append(list, api.Value{Kind: kind}, api.Value{Kind: kind, Num: of("1").Num}, api.Value{Kind: kind, Flag: true}, api.Value{Kind: kind, Text: "a"}, api.Value{Kind: kind, Err: api.EvOver})
	}
	for _, scale := range noScales {
		list = append(list, num(api.Dec{Scale: scale}), num(api.Dec{N: api.Nat{5}, Scale: scale}), num(api.Dec{Neg: true, N: api.Nat{5}, Scale: scale}))
	}
	for _, scale := range []int{0, 2, api.MaxScale} {
		list = append(list, num(api.Dec{Neg: true, Scale: scale}))
	}
	list = append(list, text(strings.Repeat("x", api.MaxText+1)), text(strings.Repeat("\x00", api.MaxText+1)), text(strings.Repeat("x", 1<<16)))
	for _, e := range []int{math.MinInt, -1, 0, api.EvLow + 1, math.MaxInt} {
		list = append(list, bad(e))
	}
	return list
}

// takes is what the chapter says of Check.
func takes(v api.Value) bool {
	num := v.Num == (api.Dec{})
	flag, text, err := !v.Flag, v.Text == "", v.Err == 0
	switch v.Kind {
	case 0:
		return num && flag && text && err
	case 1:
		return decimal.Check(v.Num) == api.OK && flag && text && err
	case 2:
		return num && text && err
	case 3:
		return num && flag && err && len(v.Text) <= 64
	case 4:
		return num && flag && text && v.Err >= 1 && v.Err <= 5
	}
	return false
}

// asked is the error that an operand comes to, its kind left out; 0 of none.
func asked(v api.Value) int {
	if !takes(v) {
		return 2
	}
	if v.Kind == 4 {
		return v.Err
	}
	if v.Kind == 0 {
		return 3
	}
	return 0
}

// askedFor is asked, and then for a kind.
func askedFor(v api.Value, kind int) int {
	if e := asked(v); e != 0 {
		return e
	}
	if v.Kind != kind {
		return 2
	}
	return 0
}

// anyDec is a number, mostly one that may be, with few digits or many.
func anyDec(r *rand.Rand) api.Dec {
	d := api.Dec{Neg: r.IntN(2) == 0, Scale: r.IntN(api.MaxScale + 1)}
	switch r.IntN(4) {
	case 0:
		d.N[0] = uint64(r.IntN(4))
		d.Scale = r.IntN(3)
	case 1:
		d.N[0] = uint64(r.IntN(1000))
	case 2:
		for i := range 1 + r.IntN(4) {
			d.N[i] = r.Uint64()
		}
	case 3:
		d.N = api.Nat{full - uint64(r.IntN(3)), full, full, full >> r.IntN(64)}
	}
	if d.N == (api.Nat{}) && r.IntN(30) > 0 {
		d.Neg = false
	}
	if r.IntN(40) == 0 {
		d.Scale = noScales[r.IntN(len(noScales))]
	}
	return d
}

// anyNum is a number that may be.
func anyNum(r *rand.Rand) api.Value {
	for {
		if d := anyDec(r); decimal.Check(d) == api.OK {
			return num(d)
		}
	}
}

// anyValue is a value of any kind, seldom one that may not be.
func anyValue(r *rand.Rand) api.Value {
	var v api.Value
	switch r.IntN(10) {
	case 0:
	case 1, 2, 3, 4, 5:
		v = num(anyDec(r))
	case 6:
		v = flag(r.IntN(2) == 0)
	case 7:
		bytes := make([]byte, r.IntN(4))
		for i := range bytes {
			bytes[i] = "ab\"\\\x00\xff"[r.IntN(6)]
		}
		v = text(string(bytes))
	case 8:
		v = bad(r.IntN(7))
	case 9:
		return listed(r)
	}
	if r.IntN(12) == 0 {
		v.Kind = r.IntN(7) - 1
	}
	return v
}

// listed is one of the values of the lists.
func listed(r *rand.Rand) api.Value {
	list := good()
	if r.IntN(3) == 0 {
		list = refused()
	}
	return list[r.IntN(len(list))]
}

// The tests' own lists must say what they are said to say, or they would hold nothing.
func TestLists(t *testing.T) {
	for _, v := range good() {
		if !takes(v) {
			t.Errorf("%#v may not be", v)
		}
	}
	for _, v := range refused() {
		if takes(v) {
			t.Errorf("%#v may be", v)
		}
	}
}
