package value_test

import (
	"math/big"
	"math/rand/v2"
	"slices"
	"strconv"
	"testing"

	"excise/api"
	"excise/decimal"
	"excise/value"
)

// opsBy are the operators that take two of a kind.
func opsBy(kind int) []int {
	switch kind {
	case api.VNum:
		return []int{1, 2, 3, 4, 5, 6, 7, 8, 9}
	case api.VFlag:
		return []int{4, 5, 10, 11}
	case api.VText:
		return []int{4, 5}
	}
	return nil
}

// wantOp is what the chapter says of Op.
func wantOp(op int, a, b api.Value) api.Value {
	for _, v := range []api.Value{a, b} {
		if e := asked(v); e != 0 {
			return bad(e)
		}
	}
	if a.Kind != b.Kind || !slices.Contains(opsBy(a.Kind), op) {
		return bad(2)
	}
	order := decimal.Cmp(a.Num, b.Num)
	same := order == 0 && a.Flag == b.Flag && a.Text == b.Text
	switch op {
	case 1, 2, 3:
		return reckoned(op, a.Num, b.Num)
	case 4:
		return flag(same)
	case 5:
		return flag(!same)
	case 6:
		return flag(order == -1)
	case 7:
		return flag(order != 1)
	case 8:
		return flag(order == 1)
	case 9:
		return flag(order != -1)
	case 10:
		return flag(a.Flag && b.Flag)
	}
	return flag(a.Flag || b.Flag)
}

func ten(n int) *big.Int { return new(big.Int).Exp(big.NewInt(10), big.NewInt(int64(n)), nil) }

// digits are d's, with its sign, at a scale that is not below its own.
func digits(d api.Dec, scale int) *big.Int {
	n := new(big.Int)
	for i := 3; i >= 0; i-- {
		n.Lsh(n, 64)
		n.Or(n, new(big.Int).SetUint64(d.N[i]))
	}
	if d.Neg {
		n.Neg(n)
	}
	return n.Mul(n, ten(scale-d.Scale))
}

// halfEven is n divided by ten to the drop, the nearer number, of two as near the even one.
func halfEven(n *big.Int, drop int) *big.Int {
	by := ten(drop)
	q, rest := new(big.Int).DivMod(n, by, new(big.Int)) // rest is not below 0
	order := new(big.Int).Lsh(rest, 1).Cmp(by)
	if order > 0 || order == 0 && q.Bit(0) == 1 {
		q.Add(q, big.NewInt(1))
	}
	return q
}

// reckoned is the sum, the difference or the product of two numbers, by great numbers.
func reckoned(op int, a, b api.Dec) api.Value {
	scale := max(a.Scale, b.Scale)
	x, y := digits(a, scale), digits(b, scale)
	n := new(big.Int)
	switch op {
	case 1:
		n.Add(x, y)
	case 2:
		n.Sub(x, y)
	case 3:
		scale = min(a.Scale+b.Scale, 18)
		n = halfEven(n.Mul(digits(a, a.Scale), digits(b, b.Scale)), a.Scale+b.Scale-scale)
	}
	if n.BitLen() > 256 {
		return bad(1)
	}
	d := api.Dec{Neg: n.Sign() < 0, Scale: scale}
	n.Abs(n)
	for i := range d.N {
		d.N[i] = new(big.Int).And(n, new(big.Int).SetUint64(full)).Uint64()
		n.Rsh(n, 64)
	}
	return num(d)
}

func checkOp(t *testing.T, op int, a, b api.Value) {
	t.Helper()
	wantSame(t, value.Text(a)+" op "+strconv.Itoa(op)+" "+value.Text(b), value.Op(op, a, b), wantOp(op, a, b))
}

// The chapter's own examples.
func TestExamples(t *testing.T) {
	wantSame(t, "1.50 + 2", value.Op(api.OpAdd, of("1.50"), of("2")), of("3.50"))
	wantSame(t, "1.50 * 0.25", value.Op(api.OpMul, of("1.50"), of("0.25")), of("0.3750"))
	wantSame(t, "\"a\" + 1", value.Op(api.OpAdd, of("'a'"), of("1")), of("!2"))
	wantSame(t, "blank + 1", value.Op(api.OpAdd, of("blank"), of("1")), of("!3"))
	wantSame(t, "If(true, 1, error)", value.If(of("true"), of("1"), of("!1")), of("1"))
}

// P13.2: sums, differences and products, with room and without.
func TestOpReckons(t *testing.T) {
	for _, c := range []struct {
		a    string
		op   int
		b    string
		want string
	}{
		{"1.50", api.OpAdd, "-1.5", "0.00"}, {"-1", api.OpAdd, "0.4", "-0.6"}, {"0", api.OpAdd, "0.00", "0.00"}, {most, api.OpAdd, "0", most}, {most, api.OpAdd, "1", "!1"}, {most, api.OpAdd, "-1", "115792089237316195423570985008687907853269984665640564039457584007913129639934"},
		{most, api.OpAdd, "0.0", "!1"}, {"-" + most, api.OpAdd, "-1", "!1"}, {most, api.OpAdd, "-" + most, "0"}, {mostAt1, api.OpAdd, "0", mostAt1}, {mostAt1, api.OpAdd, "0.1", "!1"}, {mostAt1, api.OpAdd, least18, "!1"},
		{"1.50", api.OpSub, "2", "-0.50"}, {"2", api.OpSub, "1.50", "0.50"}, {"1.50", api.OpSub, "1.5", "0.00"}, {"0", api.OpSub, "0", "0"}, {"0", api.OpSub, most, "-" + most}, {"-1", api.OpSub, most, "!1"}, {most, api.OpSub, "-1", "!1"}, {most, api.OpSub, most, "0"},
		{"-1.5", api.OpMul, "2", "-3.0"}, {"-1.5", api.OpMul, "-0.2", "0.30"}, {"-1", api.OpMul, "0.0", "0.0"}, {most, api.OpMul, "1", most}, {most, api.OpMul, "-1", "-" + most}, {most, api.OpMul, "2", "!1"}, {most, api.OpMul, "1.0", "!1"}, {most, api.OpMul, most, "!1"}, {most, api.OpMul, "0", "0"},
		{"340282366920938463463374607431768211456", api.OpMul, "340282366920938463463374607431768211455", "115792089237316195423570985008687907852929702298719625575994209400481361428480"}, {"340282366920938463463374607431768211456", api.OpMul, "340282366920938463463374607431768211456", "!1"},
		// Scales that together are just MaxScale are kept; beyond it the product is rounded, a half to the even digit.
		{"0.000000001", api.OpMul, "0.000000001", least18}, {"0.000000001", api.OpMul, "1.500000000", "0.000000001500000000"}, {least18, api.OpMul, "3", "0.000000000000000003"},
		{least18, api.OpMul, "0.5", "0.000000000000000000"}, {least18, api.OpMul, "1.5", "0.000000000000000002"}, {least18, api.OpMul, "2.5", "0.000000000000000002"}, {least18, api.OpMul, "3.5", "0.000000000000000004"}, {least18, api.OpMul, "2.51", "0.000000000000000003"}, {least18, api.OpMul, "0.51", least18}, {least18, api.OpMul, "0.49", "0.000000000000000000"},
		{"-" + least18, api.OpMul, "0.5", "0.000000000000000000"}, {"-" + least18, api.OpMul, "1.5", "-0.000000000000000002"}, {"-" + least18, api.OpMul, "2.5", "-0.000000000000000002"}, {"-" + least18, api.OpMul, "0.51", "-" + least18},
		{least18, api.OpMul, least18, "0.000000000000000000"}, {"1.000000000000000000", api.OpMul, "2.000000000000000000", "2.000000000000000000"}, {"0.333333333333333333", api.OpMul, "3.0", "0.999999999999999999"},
	} {
		wantSame(t, c.a+" op "+strconv.Itoa(c.op)+" "+c.b, value.Op(c.op, of(c.a), of(c.b)), of(c.want))
	}
	// What has no room as an exact product has some when it is rounded.
	great := num(api.Dec{N: api.Nat{full, full, full, full}, Scale: api.MaxScale})
	wantSame(t, "a great product", value.Op(api.OpMul, great, of("0.100000000000000000")), num(api.Dec{N: tenth(most), Scale: api.MaxScale}))
	wantSame(t, "a product beyond all", value.Op(api.OpMul, great, of("1.000000000000000001")), of("!1"))
}

// tenth is the number of a text of digits divided by ten, by HalfEven.
func tenth(s string) api.Nat {
	d, _ := decimal.Rescale(api.Dec{N: of(s).Num.N, Scale: 1}, 0, api.HalfEven)
	return d.N
}

// P13.2: what is held against each other.
func TestOpCompares(t *testing.T) {
	for _, c := range []struct {
		a, b  string
		order int
	}{
		{"1.50", "1.5", 0}, {"1", "1.000000000000000000", 0}, {"0", "0.00", 0}, {"-2.50", "-2.5", 0}, {most, most, 0}, {"1.51", "1.5", 1}, {"-1", "1", -1}, {"-1.51", "-1.5", -1}, {"0", "-0.1", 1}, {least18, "0", 1}, {most, mostAt1, 1}, {"-" + most, least18, -1},
	} {
		for _, turned := range []bool{false, true} {
			a, b, order := of(c.a), of(c.b), c.order
			if turned {
				a, b, order = b, a, -order
			}
			for op, want := range map[int]bool{api.OpEq: order == 0, api.OpNe: order != 0, api.OpLt: order < 0, api.OpLe: order <= 0, api.OpGt: order > 0, api.OpGe: order >= 0} {
				wantSame(t, value.Text(a)+" op "+strconv.Itoa(op)+" "+value.Text(b), value.Op(op, a, b), flag(want))
			}
		}
	}
	for _, c := range []struct {
		a, b string
		same bool
	}{
		{"true", "true", true}, {"false", "false", true}, {"true", "false", false}, {"false", "true", false},
		{"'a'", "'a'", true}, {"''", "''", true}, {"'a'", "'b'", false}, {"'a'", "'A'", false}, {"'a'", "'a '", false}, {"''", "'a'", false}, {"'1.50'", "'1.5'", false},
	} {
		wantSame(t, c.a+" = "+c.b, value.Op(api.OpEq, of(c.a), of(c.b)), flag(c.same))
		wantSame(t, c.a+" != "+c.b, value.Op(api.OpNe, of(c.a), of(c.b)), flag(!c.same))
	}
	for _, a := range []bool{false, true} {
		for _, b := range []bool{false, true} {
			wantSame(t, "and", value.Op(api.OpAnd, flag(a), flag(b)), flag(a && b))
			wantSame(t, "or", value.Op(api.OpOr, flag(a), flag(b)), flag(a || b))
		}
	}
}

// P13.2: in which order operands are asked, whatever the operator.
func TestOpAsks(t *testing.T) {
	for _, c := range []struct{ a, b, want string }{
		{"!1", "!5", "!1"}, {"!5", "!1", "!5"}, {"!4", "blank", "!4"}, {"blank", "!4", "!3"}, {"!4", "?", "!4"}, {"?", "!4", "!2"}, {"?", "blank", "!2"}, {"blank", "?", "!3"}, {"blank", "blank", "!3"}, {"?", "?", "!2"},
		{"1", "!4", "!4"}, {"true", "!4", "!4"}, {"'a'", "!4", "!4"}, {"1", "blank", "!3"}, {"true", "blank", "!3"}, {"'a'", "blank", "!3"}, {"1", "?", "!2"}, {"!4", "1", "!4"}, {"!4", "true", "!4"}, {"blank", "'a'", "!3"}, {"blank", "true", "!3"}, {"blank", "1", "!3"},
		{"1", "true", "!2"}, {"true", "1", "!2"}, {"1", "'1'", "!2"}, {"'1'", "1", "!2"}, {"true", "'true'", "!2"}, {"'true'", "true", "!2"}, {most, "true", "!2"},
	} {
		for _, op := range slices.Concat(allOps, noOps) {
			wantSame(t, c.a+" op "+strconv.Itoa(op)+" "+c.b, value.Op(op, of(c.a), of(c.b)), of(c.want))
		}
	}
	for kind, v := range map[int]string{api.VNum: "1", api.VFlag: "true", api.VText: "'a'"} {
		for _, op := range slices.Concat(allOps, noOps) {
			got := value.Op(op, of(v), of(v))
			if taken := slices.Contains(opsBy(kind), op); taken != (got.Kind != api.VErr) || !taken && got != bad(api.EvType) {
				t.Errorf("%s op %d %s: %#v", v, op, v, got)
			}
		}
	}
}

// P13.2, P13.5, P13.6: each operator at each pair of values, those that may not be among them.
func TestOpAtAllPairs(t *testing.T) {
	for _, a := range all() {
		for _, b := range all() {
			for _, op := range slices.Concat(allOps, []int{-1, 0, api.AgSum, 99}) {
				checkOp(t, op, a, b)
			}
			checkFollows(t, a, b)
		}
	}
}

// P13.2, P13.5 to P13.7 over made-up values.
func TestOpMadeUp(t *testing.T) {
	r := rand.New(rand.NewPCG(13, 2))
	for i := range 60000 {
		a, b := anyValue(r), anyValue(r)
		switch i % 3 {
		case 0:
			a, b = anyNum(r), anyNum(r)
		case 1:
			b = kin(r, a)
		}
		for _, op := range append(allOps, noOps[r.IntN(len(noOps))]) {
			checkOp(t, op, a, b)
		}
		checkFollows(t, a, b)
	}
}

// kin is a value that is the same as v, or nearly.
func kin(r *rand.Rand, v api.Value) api.Value {
	if v.Kind == api.VNum && r.IntN(2) == 0 {
		if d, e := decimal.Rescale(v.Num, r.IntN(api.MaxScale+1), api.Down); e == api.OK {
			v.Num = d
		}
	}
	return v
}

// checkFollows holds P13.6 and P13.7 of two values.
func checkFollows(t *testing.T, a, b api.Value) {
	t.Helper()
	for _, op := range allOps {
		got := value.Op(op, a, b)
		if takes(a) && a.Kind == api.VErr && got != a {
			t.Fatalf("%#v op %d %#v: %#v", a, op, b, got)
		}
		if takes(b) && b.Kind == api.VErr && got.Kind != api.VErr {
			t.Fatalf("%#v op %d %#v: %#v", a, op, b, got)
		}
	}
	for _, pair := range [][2]int{{api.OpNe, api.OpEq}, {api.OpGe, api.OpLt}, {api.OpGt, api.OpLe}} {
		x, y := value.Op(pair[0], a, b), value.Op(pair[1], a, b)
		if value.Not(x) != y || value.Not(y) != x {
			t.Fatalf("%#v, %#v: op %d %#v, op %d %#v", a, b, pair[0], x, pair[1], y)
		}
	}
	if a.Kind == api.VNum && b.Kind == api.VNum && takes(a) && takes(b) {
		for _, op := range []int{api.OpEq, api.OpNe, api.OpAdd, api.OpMul} {
			if x, y := value.Op(op, a, b), value.Op(op, b, a); x != y {
				t.Fatalf("%#v, %#v: op %d %#v and %#v", a, b, op, x, y)
			}
		}
	}
	x, y := value.Op(api.OpAnd, a, b), value.Not(value.Op(api.OpOr, value.Not(a), value.Not(b)))
	if a.Kind == api.VFlag && b.Kind == api.VFlag && x != y {
		t.Fatalf("%#v and %#v: %#v, by or %#v", a, b, x, y)
	}
	x, y = value.Op(api.OpOr, a, b), value.Not(value.Op(api.OpAnd, value.Not(a), value.Not(b)))
	if a.Kind == api.VFlag && b.Kind == api.VFlag && x != y {
		t.Fatalf("%#v or %#v: %#v, by and %#v", a, b, x, y)
	}
}
