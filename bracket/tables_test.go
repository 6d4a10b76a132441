package bracket_test

import (
	"math/big"
	"strings"
	"testing"

	"excise/api"
	"excise/bracket"
	"excise/decimal"
	"excise/dectext"
)

const (
	full    = 1<<64 - 1
	least18 = "0.000000000000000001"
)

// dec is the number that a text of the tests says: M is 2^256 - 1, M/s that at the scale s, ? one that may not be.
func dec(s string) api.Dec {
	if s == "?" {
		return api.Dec{Neg: true}
	}
	size, neg := strings.CutPrefix(s, "-")
	if scale, ok := strings.CutPrefix(size, "M"); ok {
		d := api.Dec{Neg: neg, N: api.Nat{full, full, full, full}}
		if scale != "" {
			d.Scale = int(dec(scale[1:]).N[0])
		}
		return d
	}
	d, e := dectext.Parse(s)
	if e != api.OK {
		panic(s)
	}
	return d
}

// table is the table whose steps a text says: From, Base and Rate of each, a ; between two.
func table(s string) api.Table {
	t := api.Table{Name: "T"}
	for _, words := range strings.Split(s, ";") {
		l := strings.Fields(words)
		if len(l) == 0 && s == "" {
			break
		}
		t.Steps = append(t.Steps, api.Step{From: dec(l[0]), Base: dec(l[1]), Rate: dec(l[2])})
	}
	return t
}

// long is a table of n steps, from 0, 10, 20 and so on, joined, with rates that rise.
func long(n int) api.Table {
	t := api.Table{Name: "long"}
	base := int64(0)
	for i := range int64(n) {
		t.Steps = append(t.Steps, api.Step{From: small(10*i, 0), Base: small(base, 1), Rate: small(i, 1)})
		base += 10 * i
	}
	return t
}

func small(n int64, scale int) api.Dec {
	d, e := decimal.OfInt(n, scale)
	if e != api.OK {
		panic(scale)
	}
	return d
}

// tens are kept, as they are asked for again and again.
var tens = func() (l [37]*big.Int) {
	for n := range l {
		l[n] = new(big.Int).Exp(big.NewInt(10), big.NewInt(int64(n)), nil)
	}
	return l
}()

func ten(n int) *big.Int { return tens[n] }

// digits are d's, with its sign, at a scale that is not below its own.
func digits(d api.Dec, scale int) *big.Int {
	n := new(big.Int)
	for i := 3; i >= 0; i-- {
		n.Lsh(n, 64)
		n.Or(n, new(big.Int).SetUint64(d.N[i]))
	}
	if d.Neg {
		n.Neg(n)
	}
	return n.Mul(n, ten(scale-d.Scale))
}

// atScale is the number with the digits n at a scale; false, if it has no room.
func atScale(n *big.Int, scale int) (api.Dec, bool) {
	if n.BitLen() > 256 {
		return api.Dec{}, false
	}
	d := api.Dec{Neg: n.Sign() < 0, Scale: scale}
	left := new(big.Int).Abs(n)
	for i := range d.N {
		d.N[i] = new(big.Int).And(left, new(big.Int).SetUint64(full)).Uint64()
		left.Rsh(left, 64)
	}
	return d, true
}

// halfEven is n divided by ten to the drop, the nearer number, of two as near the even one.
func halfEven(n *big.Int, drop int) *big.Int {
	by := ten(drop)
	q, rest := new(big.Int).DivMod(n, by, new(big.Int)) // rest is not below 0
	order := new(big.Int).Lsh(rest, 1).Cmp(by)
	if order > 0 || order == 0 && q.Bit(0) == 1 {
		q.Add(q, big.NewInt(1))
	}
	return q
}

func mayBe(d api.Dec) bool { return d.Scale >= 0 && d.Scale <= 18 && !(d.Neg && d.N == api.Nat{}) }

// order is -1, 0 or 1, as a is below, at or above b; both may be.
func order(a, b api.Dec) int { return digits(a, 18).Cmp(digits(b, 18)) }

// wantCheck is what P14.1 says of Check.
func wantCheck(t api.Table) api.Errno {
	if len(t.Steps) > 32 {
		return 3
	}
	if len(t.Steps) < 1 {
		return 140
	}
	for _, s := range t.Steps {
		if !mayBe(s.From) || !mayBe(s.Base) || !mayBe(s.Rate) {
			return 20
		}
	}
	for i, s := range t.Steps[1:] {
		if order(s.From, t.Steps[i].From) != 1 {
			return 140
		}
	}
	return 0
}

// wantStep is what P14.2 says of Step, all steps gone through.
func wantStep(t api.Table, x api.Dec) (int, api.Errno) {
	if e := wantCheck(t); e != 0 {
		return 0, e
	}
	if !mayBe(x) {
		return 0, 20
	}
	last := -1
	for i, s := range t.Steps {
		if order(s.From, x) != 1 {
			last = i
		}
	}
	if last < 0 {
		return 0, 141
	}
	return last, 0
}

// wantSays is what P14.3 says of one step, by great numbers; 7 of what has no room.
func wantSays(s api.Step, x api.Dec) (api.Dec, api.Errno) {
	scale := max(x.Scale, s.From.Scale)
	above := new(big.Int).Sub(digits(x, scale), digits(s.From, scale))
	if above.BitLen() > 256 {
		return api.Dec{}, 7
	}
	exact := scale + s.Rate.Scale
	scale = min(exact, 18)
	share := halfEven(new(big.Int).Mul(above, digits(s.Rate, s.Rate.Scale)), exact-scale)
	if share.BitLen() > 256 {
		return api.Dec{}, 7
	}
	most := max(scale, s.Base.Scale)
	share.Mul(share, ten(most-scale))
	d, ok := atScale(share.Add(share, digits(s.Base, most)), most)
	if !ok {
		return api.Dec{}, 7
	}
	return d, 0
}

// wantAt is what P14.3 says of At.
func wantAt(t api.Table, x api.Dec) (api.Dec, api.Errno) {
	n, e := wantStep(t, x)
	if e != 0 {
		return api.Dec{}, e
	}
	return wantSays(t.Steps[n], x)
}

// wantShape is what P14.4 says of Rising and Joined.
func wantShape(t api.Table) (rising, joined bool, e api.Errno) {
	if e := wantCheck(t); e != 0 {
		return false, false, e
	}
	rising, joined = true, true
	for i, s := range t.Steps {
		if s.Rate.Neg {
			rising = false
		}
		if i == 0 {
			continue
		}
		end, e := wantSays(t.Steps[i-1], s.From)
		if e != 0 {
			return false, false, e
		}
		rising = rising && order(s.Base, end) != -1
		joined = joined && order(s.Base, end) == 0
	}
	return rising, joined, 0
}

// checkTable holds all that a table alone is asked against the chapter's words.
func checkTable(t *testing.T, x api.Table) {
	t.Helper()
	if got, want := bracket.Check(x), wantCheck(x); got != want {
		t.Fatalf("Check of %v: %v, not %v", x, got, want)
	}
	rising, joined, e := wantShape(x)
	if got, f := bracket.Rising(x); got != rising || f != e {
		t.Fatalf("Rising of %v: %v %v, not %v %v", x, got, f, rising, e)
	}
	if got, f := bracket.Joined(x); got != joined || f != e {
		t.Fatalf("Joined of %v: %v %v, not %v %v", x, got, f, joined, e)
	}
}

// checkNumber holds what a table says of a number against the chapter's words.
func checkNumber(t *testing.T, x api.Table, n api.Dec) {
	t.Helper()
	step, e := wantStep(x, n)
	if got, f := bracket.Step(x, n); got != step || f != e {
		t.Fatalf("Step of %v in %v: %d %v, not %d %v", n, x, got, f, step, e)
	}
	want, e := wantAt(x, n)
	if got, f := bracket.At(x, n); got != want || f != e {
		t.Fatalf("At of %v in %v: %v %v, not %v %v", n, x, got, f, want, e)
	}
}

// The tests' own reckoning must be right where it can be seen by eye, or it would hold nothing.
func TestOwnReckoning(t *testing.T) {
	if dec("M/18").Scale != 18 || dec("-M") != (api.Dec{Neg: true, N: api.Nat{full, full, full, full}}) || mayBe(dec("?")) || !mayBe(dec("0.00")) {
		t.Error("numbers")
	}
	if l := table("0 0 0.1; 100 10 0.2").Steps; len(l) != 2 || l[1] != (api.Step{From: small(100, 0), Base: small(10, 0), Rate: small(2, 1)}) || len(table("").Steps) != 0 {
		t.Error("tables", l)
	}
	for n, want := range map[int64]int64{25: 2, 35: 4, -25: -2, -35: -4, 26: 3, -24: -2, 20: 2} {
		if got := halfEven(big.NewInt(n), 1); got.Int64() != want {
			t.Errorf("%d by ten: %v", n, got)
		}
	}
	if order(dec("1.50"), dec("1.5")) != 0 || order(dec("-M"), dec("M")) != -1 || order(dec("M"), dec("M/1")) != 1 {
		t.Error("order")
	}
	for _, n := range []int{1, 2, 31, 32} {
		if rising, joined, e := wantShape(long(n)); !rising || !joined || e != 0 || len(long(n).Steps) != n {
			t.Errorf("long(%d): %v %v %v", n, rising, joined, e)
		}
	}
}
