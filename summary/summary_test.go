package summary_test

import (
	"math"
	"math/big"
	"math/rand/v2"
	"testing"

	"excise/api"
	"excise/decimal"
	"excise/summary"
)

const (
	top  = 1 << 63
	full = 1<<64 - 1
)

var (
	most    = api.Nat{full, full, full, full}
	noScale = []int{math.MinInt, -1, api.MaxScale + 1, math.MaxInt}
	noOps   = []int{math.MinInt, -1, 0, api.OpAdd, api.OpOr, api.AgRows + 1, math.MaxInt}
)

// power is 2 to the n.
func power(n uint) *big.Int { return new(big.Int).Lsh(big.NewInt(1), n) }

func plus(a *big.Int, n int64) *big.Int { return new(big.Int).Add(a, big.NewInt(n)) }

func negated(a *big.Int) *big.Int { return new(big.Int).Neg(a) }

// wideBig is the number that w says.
func wideBig(w api.Wide) *big.Int {
	n := new(big.Int)
	for i := len(w) - 1; i >= 0; i-- {
		n.Lsh(n, 64)
		n.Add(n, new(big.Int).SetUint64(w[i]))
	}
	if w[4] >= top {
		n.Sub(n, power(320))
	}
	return n
}

// bigWide is b modulo 2^320, as a wide number.
func bigWide(b *big.Int) api.Wide {
	left := new(big.Int).Mod(b, power(320))
	var w api.Wide
	for i := range w {
		w[i] = new(big.Int).And(left, new(big.Int).SetUint64(full)).Uint64()
		left.Rsh(left, 64)
	}
	return w
}

// bigDec is the Dec of b's digits at a scale; false, if it has more than 256 bits.
func bigDec(b *big.Int, scale int) (api.Dec, bool) {
	if b.BitLen() > 256 {
		return api.Dec{}, false
	}
	w := bigWide(new(big.Int).Abs(b))
	return api.Dec{Neg: b.Sign() < 0, N: api.Nat{w[0], w[1], w[2], w[3]}, Scale: scale}, true
}

// digits are d's, with its sign, whatever the scale is.
func digits(d api.Dec) *big.Int {
	n := wideBig(api.Wide{d.N[0], d.N[1], d.N[2], d.N[3]})
	if d.Neg {
		n.Neg(n)
	}
	return n
}

func dec(n int64, scale int) api.Dec {
	d, _ := bigDec(big.NewInt(n), scale)
	return d
}

func num(d api.Dec) api.Value { return api.Value{Kind: api.VNum, Num: d} }

func bad(err int) api.Value { return api.Value{Kind: api.VErr, Err: err} }

// edges are wide numbers about 0, 2^256, 2^319 and other powers, of both signs.
func edges() []*big.Int {
	var out []*big.Int
	for _, n := range []uint{0, 1, 63, 64, 65, 127, 128, 129, 191, 192, 193, 254, 255, 256, 257, 316, 317, 318, 319} {
		for d := int64(-2); d <= 2; d++ {
			for _, b := range []*big.Int{plus(power(n), d), negated(plus(power(n), d))} {
				if wideBig(bigWide(b)).Cmp(b) == 0 {
					out = append(out, b)
				}
			}
		}
	}
	return out
}

// anyWide is a wide number, with limbs at edges among its limbs.
func anyWide(r *rand.Rand) api.Wide {
	var w api.Wide
	for i := range 1 + r.IntN(5) {
		switch r.IntN(6) {
		case 0:
			w[i] = 0
		case 1:
			w[i] = full
		case 2:
			w[i] = top
		case 3:
			w[i] = uint64(r.IntN(3))
		default:
			w[i] = r.Uint64()
		}
	}
	if r.IntN(2) == 0 {
		return bigWide(negated(wideBig(w)))
	}
	return w
}

// P5.1

func TestWiden(t *testing.T) {
	for _, c := range []struct {
		d    api.Dec
		want api.Wide
	}{
		{api.Dec{}, api.Wide{}},
		{api.Dec{Neg: true}, api.Wide{}},
		{api.Dec{N: api.Nat{1}}, api.Wide{1}},
		{api.Dec{Neg: true, N: api.Nat{1}}, api.Wide{full, full, full, full, full}},
		{api.Dec{N: api.Nat{1, 2, 3, 4}}, api.Wide{1, 2, 3, 4, 0}},
		{api.Dec{Neg: true, N: api.Nat{1, 2, 3, 4}}, api.Wide{full, full - 2, full - 3, full - 4, full}},
		{api.Dec{Neg: true, N: api.Nat{0, 0, 1}}, api.Wide{0, 0, full, full, full}},
		{api.Dec{N: api.Nat{0, 0, 0, top}}, api.Wide{0, 0, 0, top, 0}},
		{api.Dec{Neg: true, N: api.Nat{0, 0, 0, top}}, api.Wide{0, 0, 0, top, full}},
		{api.Dec{N: most}, api.Wide{full, full, full, full, 0}},
		{api.Dec{Neg: true, N: most}, api.Wide{1, 0, 0, 0, full}},
	} {
		for _, scale := range append([]int{0, 2, api.MaxScale}, noScale...) {
			c.d.Scale = scale
			if got := summary.Widen(c.d); got != c.want {
				t.Error(c.d, got)
			}
		}
	}
}

func TestNarrow(t *testing.T) {
	for _, c := range []struct {
		w    api.Wide
		want api.Dec
		e    api.Errno
	}{
		{api.Wide{}, api.Dec{}, api.OK},
		{api.Wide{7}, api.Dec{N: api.Nat{7}}, api.OK},
		{api.Wide{full, full, full, full, full}, api.Dec{Neg: true, N: api.Nat{1}}, api.OK},
		{api.Wide{1, 2, 3, 4}, api.Dec{N: api.Nat{1, 2, 3, 4}}, api.OK},
		{api.Wide{full, full, full, full}, api.Dec{N: most}, api.OK},
		{api.Wide{1, 0, 0, 0, full}, api.Dec{Neg: true, N: most}, api.OK},
		{api.Wide{0, 0, 0, 0, 1}, api.Dec{}, api.ErrOver},
		{api.Wide{1, 0, 0, 0, 1}, api.Dec{}, api.ErrOver},
		{api.Wide{0, 0, 0, 0, full}, api.Dec{}, api.ErrOver},
		{api.Wide{full, full, full, full, full - 1}, api.Dec{}, api.ErrOver},
		{api.Wide{0, 0, 0, 0, top}, api.Dec{}, api.ErrOver},
		{api.Wide{full, full, full, full, top - 1}, api.Dec{}, api.ErrOver},
	} {
		for _, scale := range []int{0, 1, 2, api.MaxScale} {
			want := c.want
			if c.e == api.OK {
				want.Scale = scale
			}
			if got, e := summary.Narrow(c.w, scale); got != want || e != c.e {
				t.Error(c.w, scale, got, e)
			}
		}
		// A scale that may not be comes ahead of a number that has no room.
		for _, scale := range noScale {
			if got, e := summary.Narrow(c.w, scale); got != (api.Dec{}) || e != api.ErrArg {
				t.Error(c.w, scale, got, e)
			}
		}
	}
}

func TestNarrowAgainstBig(t *testing.T) {
	check := func(w api.Wide, scale int) {
		want, fits := bigDec(wideBig(w), scale)
		got, e := summary.Narrow(w, scale)
		if got != want || (e == api.OK) != fits || !fits && e != api.ErrOver {
			t.Fatal(w, scale, got, e)
		}
		if fits && (decimal.Check(got) != api.OK || summary.Widen(got) != w) {
			t.Fatal(w, scale, got)
		}
	}
	for _, b := range edges() {
		check(bigWide(b), 0)
		check(bigWide(b), api.MaxScale)
	}
	r := rand.New(rand.NewPCG(5, 1))
	for range 20000 {
		w := anyWide(r)
		check(w, r.IntN(api.MaxScale+1))
		w[4] = uint64(-int64(r.IntN(2))) // near 2^256 and -2^256
		check(w, r.IntN(api.MaxScale+1))
	}
}

func TestAddWide(t *testing.T) {
	least := api.Wide{0, 0, 0, 0, top}
	greatest := api.Wide{full, full, full, full, top - 1}
	minusOne := api.Wide{full, full, full, full, full}
	for _, c := range []struct{ a, b, want api.Wide }{
		{api.Wide{}, api.Wide{}, api.Wide{}},
		{api.Wide{2}, api.Wide{3}, api.Wide{5}},
		{api.Wide{full, full, full, full}, api.Wide{1}, api.Wide{0, 0, 0, 0, 1}},
		{api.Wide{1}, minusOne, api.Wide{}},
		{api.Wide{0, 0, 0, 0, 1}, minusOne, api.Wide{full, full, full, full}},
		{greatest, api.Wide{1}, least},
		{least, minusOne, greatest},
		{least, least, api.Wide{}},
		{least, greatest, minusOne},
		{greatest, greatest, api.Wide{full - 1, full, full, full, full}},
		{minusOne, minusOne, api.Wide{full - 1, full, full, full, full}},
	} {
		if got := summary.AddWide(c.a, c.b); got != c.want {
			t.Error(c.a, c.b, got)
		}
		if got := summary.AddWide(c.b, c.a); got != c.want {
			t.Error(c.b, c.a, got)
		}
	}
	for _, a := range edges() {
		for _, b := range edges() {
			if got := summary.AddWide(bigWide(a), bigWide(b)); got != bigWide(new(big.Int).Add(a, b)) {
				t.Fatal(a, b, got)
			}
		}
	}
	r := rand.New(rand.NewPCG(5, 2))
	for range 20000 {
		a, b := anyWide(r), anyWide(r)
		if got := summary.AddWide(a, b); got != bigWide(new(big.Int).Add(wideBig(a), wideBig(b))) {
			t.Fatal(a, b, got)
		}
	}
}

// P5.2

func TestOf(t *testing.T) {
	blank := api.Sum{Rows: 1, Blank: 1}
	filled := api.Sum{Rows: 1, Filled: 1}
	wrong := api.Sum{Rows: 1, Bad: 1, Err: api.EvType}
	for _, c := range []struct {
		v    api.Value
		want api.Sum
	}{
		{api.Value{}, blank},
		// What a kind gives no meaning counts for nothing.
		{api.Value{Kind: api.VBlank, Num: dec(5, 2), Flag: true, Text: "a", Err: 3}, blank},
		{api.Value{Kind: api.VFlag}, filled},
		{api.Value{Kind: api.VFlag, Flag: true}, filled},
		{api.Value{Kind: api.VFlag, Num: dec(5, 2), Err: 3}, filled},
		{api.Value{Kind: api.VText}, filled},
		{api.Value{Kind: api.VText, Text: "a text"}, filled},
		{api.Value{Kind: api.VText, Text: "5", Num: dec(5, 2), Err: 3}, filled},
		{bad(api.EvOver), api.Sum{Rows: 1, Bad: 1, Err: api.EvOver}},
		{bad(api.EvType), api.Sum{Rows: 1, Bad: 1, Err: api.EvType}},
		{bad(api.EvBlank), api.Sum{Rows: 1, Bad: 1, Err: api.EvBlank}},
		{bad(api.EvNone), api.Sum{Rows: 1, Bad: 1, Err: api.EvNone}},
		{bad(api.EvLow), api.Sum{Rows: 1, Bad: 1, Err: api.EvLow}},
		{bad(6), api.Sum{Rows: 1, Bad: 1, Err: 6}},
		{bad(math.MaxInt), api.Sum{Rows: 1, Bad: 1, Err: math.MaxInt}},
		{api.Value{Kind: api.VErr, Err: 3, Num: dec(5, 2)}, api.Sum{Rows: 1, Bad: 1, Err: 3}},
		{bad(0), wrong},
		{bad(-1), wrong},
		{bad(math.MinInt), wrong},
		{api.Value{Kind: -1}, wrong},
		{api.Value{Kind: 5}, wrong},
		{api.Value{Kind: 5, Num: dec(5, 2), Err: 1}, wrong},
		{api.Value{Kind: math.MinInt}, wrong},
		{api.Value{Kind: math.MaxInt}, wrong},
	} {
		// The scale says something of numbers alone.
		for _, scale := range append([]int{0, 2, api.MaxScale}, noScale...) {
			if got := summary.Of(c.v, scale); got != c.want {
				t.Error(c.v, scale, got)
			}
		}
	}
}

func TestOfNumber(t *testing.T) {
	for _, scale := range []int{0, 1, 2, api.MaxScale} {
		for _, c := range []struct {
			neg   bool
			n     api.Nat
			total api.Wide
		}{
			{false, api.Nat{}, api.Wide{}},
			{false, api.Nat{250}, api.Wide{250}},
			{true, api.Nat{100}, api.Wide{full - 99, full, full, full, full}},
			{false, most, api.Wide{full, full, full, full, 0}},
			{true, most, api.Wide{1, 0, 0, 0, full}},
		} {
			d := api.Dec{Neg: c.neg, N: c.n, Scale: scale}
			want := api.Sum{Rows: 1, Filled: 1, Total: c.total, Some: true, Min: d, Max: d}
			if got := summary.Of(num(d), scale); got != want {
				t.Error(d, got)
			}
			// What is not a number's own counts for nothing.
			if got := summary.Of(api.Value{Kind: api.VNum, Num: d, Flag: true, Text: "a", Err: 3}, scale); got != want {
				t.Error(d, got)
			}
		}
	}
}

func TestOfWrongNumber(t *testing.T) {
	want := api.Sum{Rows: 1, Bad: 1, Err: api.EvType}
	for _, c := range []struct {
		d     api.Dec
		scale int
	}{
		{api.Dec{Neg: true}, 0},
		{api.Dec{Neg: true, Scale: 2}, 2},
		{api.Dec{Neg: true, Scale: api.MaxScale}, api.MaxScale},
		{dec(250, 2), 0},
		{dec(250, 2), 1},
		{dec(250, 2), 3},
		{dec(0, 0), 2},
		{dec(0, 2), 0},
		{dec(0, api.MaxScale), 0},
		{dec(-1, 0), api.MaxScale},
		{dec(250, 2), -2},
	} {
		if got := summary.Of(num(c.d), c.scale); got != want {
			t.Error(c.d, c.scale, got)
		}
	}
	// A scale that may not be is no number's, not even of one that has it.
	for _, scale := range noScale {
		for _, n := range []int64{0, 1, -1} {
			if got := summary.Of(num(dec(n, scale)), scale); got != want {
				t.Error(n, scale, got)
			}
			if got := summary.Of(num(dec(n, 2)), scale); got != want {
				t.Error(n, scale, got)
			}
			if got := summary.Of(num(dec(n, scale)), 2); got != want {
				t.Error(n, scale, got)
			}
		}
	}
}

// P5.3

func TestJoinOfNothing(t *testing.T) {
	if got := summary.Join(); got != (api.Sum{}) {
		t.Error(got)
	}
	if got := summary.Join(nil...); got != (api.Sum{}) {
		t.Error(got)
	}
	if got := summary.Join([]api.Sum{}...); got != (api.Sum{}) {
		t.Error(got)
	}
	if got := summary.Join(api.Sum{}, api.Sum{}); got != (api.Sum{}) {
		t.Error(got)
	}
}

func TestJoinOfOne(t *testing.T) {
	for _, s := range []api.Sum{
		summary.Of(api.Value{}, 2),
		summary.Of(bad(api.EvLow), 2),
		summary.Of(num(dec(-5, 2)), 2),
		summary.Of(api.Value{Kind: api.VText}, 2),
		{Rows: 9, Filled: 3, Blank: 4, Bad: 2, Err: 4, Total: api.Wide{1, 2, 3, 4, 5}, Some: true, Min: dec(-7, 2), Max: dec(9, 2)},
		{Rows: -9, Filled: -3, Blank: -4, Bad: -2, Err: -4},
	} {
		if got := summary.Join(s); got != s {
			t.Error(s, got)
		}
	}
	// Without Some, there is no least and no greatest to be told.
	if got := summary.Join(api.Sum{Rows: 1, Min: dec(-7, 2), Max: dec(9, 2)}); got != (api.Sum{Rows: 1}) {
		t.Error(got)
	}
}

func TestJoinCounts(t *testing.T) {
	a := api.Sum{Rows: 1, Filled: 20, Blank: 300, Bad: 4000, Total: api.Wide{5}}
	b := api.Sum{Rows: 2, Filled: 30, Blank: 400, Bad: 5000, Total: api.Wide{full, full, full, full, full}}
	c := api.Sum{Rows: 4, Filled: 50, Blank: 600, Bad: 7000, Total: api.Wide{0, 0, 0, 0, 3}}
	want := api.Sum{Rows: 7, Filled: 100, Blank: 1300, Bad: 16000, Total: api.Wide{4, 0, 0, 0, 3}}
	if got := summary.Join(a, b, c); got != want {
		t.Error(got)
	}
}

func TestJoinLeastError(t *testing.T) {
	for _, c := range []struct {
		list []int
		want int
	}{
		{[]int{0, 0}, 0},
		{[]int{0, 3}, 3},
		{[]int{3, 0}, 3},
		{[]int{5, 2, 4}, 2},
		{[]int{2, 5, 4}, 2},
		{[]int{5, 4, 2}, 2},
		{[]int{0, 5, 0, 4, 0}, 4},
		{[]int{3, 3}, 3},
		{[]int{1, -1, 0}, -1},
		{[]int{math.MaxInt, 0}, math.MaxInt},
		{[]int{math.MaxInt, math.MinInt}, math.MinInt},
	} {
		var parts []api.Sum
		for _, err := range c.list {
			parts = append(parts, api.Sum{Err: err})
		}
		if got := summary.Join(parts...); got != (api.Sum{Err: c.want}) {
			t.Error(c.list, got)
		}
	}
}

func span(least, greatest api.Dec) api.Sum {
	return api.Sum{Some: true, Min: least, Max: greatest}
}

func TestJoinLeastAndGreatest(t *testing.T) {
	none := api.Sum{Min: dec(-99, 2), Max: dec(99, 2)} // without Some: of no meaning
	wrong := api.Dec{Neg: true}
	for _, c := range []struct {
		list []api.Sum
		want api.Sum
	}{
		{[]api.Sum{span(dec(1, 2), dec(2, 2)), span(dec(3, 2), dec(4, 2))}, span(dec(1, 2), dec(4, 2))},
		{[]api.Sum{span(dec(3, 2), dec(4, 2)), span(dec(1, 2), dec(2, 2))}, span(dec(1, 2), dec(4, 2))},
		{[]api.Sum{span(dec(-3, 2), dec(4, 2)), span(dec(1, 2), dec(2, 2))}, span(dec(-3, 2), dec(4, 2))},
		{[]api.Sum{span(dec(1, 2), dec(2, 2)), span(dec(-3, 2), dec(4, 2))}, span(dec(-3, 2), dec(4, 2))},
		{[]api.Sum{span(dec(-2, 2), dec(-2, 2)), span(dec(-1, 2), dec(-1, 2)), span(dec(-3, 2), dec(-3, 2))}, span(dec(-3, 2), dec(-1, 2))},
		{[]api.Sum{span(dec(5, 2), dec(5, 2)), none}, span(dec(5, 2), dec(5, 2))},
		{[]api.Sum{none, span(dec(5, 2), dec(5, 2))}, span(dec(5, 2), dec(5, 2))},
		{[]api.Sum{none, span(dec(-5, 2), dec(-5, 2)), none}, span(dec(-5, 2), dec(-5, 2))},
		{[]api.Sum{none, none}, api.Sum{}},
		// Numbers go by their worth, not by their digits.
		{[]api.Sum{span(dec(100, 2), dec(100, 2)), span(dec(9, 0), dec(9, 0))}, span(dec(100, 2), dec(9, 0))},
		// Of several as great, the first one's.
		{[]api.Sum{span(dec(10, 1), dec(10, 1)), span(dec(1, 0), dec(1, 0)), span(dec(100, 2), dec(100, 2))}, span(dec(10, 1), dec(10, 1))},
		{[]api.Sum{span(dec(0, 3), dec(0, 4)), span(dec(0, 0), dec(0, 1))}, span(dec(0, 3), dec(0, 4))},
		{[]api.Sum{span(dec(5, 0), dec(5, 0)), span(dec(-30, 1), dec(70, 1)), span(dec(-3, 0), dec(7, 0))}, span(dec(-30, 1), dec(70, 1))},
		// Cmp says of a number that may not be that it is as great as any.
		{[]api.Sum{span(wrong, wrong), span(dec(-5, 2), dec(5, 2))}, span(wrong, wrong)},
		{[]api.Sum{span(dec(-5, 2), dec(5, 2)), span(wrong, wrong)}, span(dec(-5, 2), dec(5, 2))},
	} {
		if got := summary.Join(c.list...); got != c.want {
			t.Error(c.list, got)
		}
	}
}

func TestJoinLeavesItsArguments(t *testing.T) {
	list := []api.Sum{summary.Of(num(dec(5, 2)), 2), summary.Of(num(dec(-5, 2)), 2), summary.Of(bad(3), 2)}
	was := append([]api.Sum(nil), list...)
	first := summary.Join(list...)
	for i := range list {
		if list[i] != was[i] {
			t.Error(i, list[i])
		}
	}
	if again := summary.Join(list...); again != first {
		t.Error(again, first)
	}
}

// P5.4

func TestTotal(t *testing.T) {
	for _, b := range edges() {
		for _, scale := range []int{0, 2, api.MaxScale} {
			s := api.Sum{Rows: 3, Bad: 1, Err: 2, Total: bigWide(b)}
			want, fits := bigDec(b, scale)
			got, e := summary.Total(s, scale)
			if got != want || (e == api.OK) != fits || !fits && e != api.ErrOver {
				t.Error(b, scale, got, e)
			}
		}
		for _, scale := range noScale {
			if got, e := summary.Total(api.Sum{Total: bigWide(b)}, scale); got != (api.Dec{}) || e != api.ErrArg {
				t.Error(b, scale, got, e)
			}
		}
	}
}

func TestValueOfCounts(t *testing.T) {
	for _, scale := range append([]int{0, 2, api.MaxScale}, noScale...) {
		for _, n := range []int{0, 1, 2, 1024, math.MaxInt, -1, math.MinInt} {
			for _, err := range []int{0, 3} { // errors are rows too, and keep none from being counted
				s := api.Sum{Rows: n, Filled: 77, Blank: 88, Bad: 99, Err: err, Total: api.Wide{0, 0, 0, 0, 7}}
				if got := summary.Value(api.AgRows, s, scale); got != num(dec(int64(n), 0)) {
					t.Error(n, got)
				}
				s.Rows, s.Filled = 77, n
				if got := summary.Value(api.AgCount, s, scale); got != num(dec(int64(n), 0)) {
					t.Error(n, got)
				}
			}
		}
	}
}

func TestValueOfNumbers(t *testing.T) {
	s := api.Sum{Rows: 3, Filled: 3, Total: api.Wide{full - 49, full, full, full, full}, Some: true, Min: dec(-300, 2), Max: dec(250, 2)}
	for _, c := range []struct {
		op   int
		want api.Value
	}{
		{api.AgSum, num(dec(-50, 2))},
		{api.AgMin, num(dec(-300, 2))},
		{api.AgMax, num(dec(250, 2))},
	} {
		if got := summary.Value(c.op, s, 2); got != c.want {
			t.Error(c.op, got)
		}
	}
	// Nothing has a sum, and no least and no greatest.
	for _, scale := range []int{0, 2, api.MaxScale} {
		empty := api.Sum{Min: dec(-300, 2), Max: dec(250, 2)}
		if got := summary.Value(api.AgSum, empty, scale); got != num(dec(0, scale)) {
			t.Error(got)
		}
		for _, op := range []int{api.AgMin, api.AgMax} {
			if got := summary.Value(op, empty, scale); got != bad(api.EvNone) {
				t.Error(op, got)
			}
		}
	}
	// The least and the greatest have their own scale.
	for _, scale := range append([]int{0, api.MaxScale}, noScale...) {
		if got := summary.Value(api.AgMin, s, scale); got != num(dec(-300, 2)) {
			t.Error(scale, got)
		}
		if got := summary.Value(api.AgMax, s, scale); got != num(dec(250, 2)) {
			t.Error(scale, got)
		}
	}
}

func TestValueOfSumWithoutRoom(t *testing.T) {
	for _, c := range []struct {
		total *big.Int
		over  bool
	}{
		{plus(power(256), -1), false},
		{power(256), true},
		{plus(power(256), 1), true},
		{negated(plus(power(256), -1)), false},
		{negated(power(256)), true},
		{plus(power(319), -1), true},
		{negated(power(319)), true},
	} {
		for _, scale := range []int{0, api.MaxScale} {
			want := bad(api.EvOver)
			if !c.over {
				d, _ := bigDec(c.total, scale)
				want = num(d)
			}
			if got := summary.Value(api.AgSum, api.Sum{Total: bigWide(c.total)}, scale); got != want {
				t.Error(c.total, scale, got)
			}
		}
	}
	for _, scale := range noScale {
		if got := summary.Value(api.AgSum, api.Sum{Total: api.Wide{1}}, scale); got != bad(api.EvOver) {
			t.Error(scale, got)
		}
	}
}

func TestValueOfErrors(t *testing.T) {
	for _, err := range []int{api.EvOver, api.EvType, api.EvBlank, api.EvNone, api.EvLow, 6, -1, math.MaxInt, math.MinInt} {
		for _, s := range []api.Sum{
			{Err: err},
			{Err: err, Some: true, Min: dec(1, 2), Max: dec(2, 2), Total: api.Wide{3}},
			{Err: err, Total: api.Wide{0, 0, 0, 0, 7}}, // the error, and not EvOver
		} {
			for _, op := range []int{api.AgSum, api.AgMin, api.AgMax} {
				for _, scale := range append([]int{2}, noScale...) {
					if got := summary.Value(op, s, scale); got != bad(err) {
						t.Error(op, s, scale, got)
					}
				}
			}
		}
	}
	// Bad alone says nothing: Err does.
	if got := summary.Value(api.AgSum, api.Sum{Bad: 1, Total: api.Wide{3}}, 2); got != num(dec(3, 2)) {
		t.Error(got)
	}
}

func TestValueOfNoOp(t *testing.T) {
	for _, op := range noOps {
		for _, s := range []api.Sum{{}, {Err: 3}, {Rows: 1, Filled: 1, Some: true, Min: dec(1, 2), Max: dec(1, 2), Total: api.Wide{1}}} {
			for _, scale := range []int{2, -1} {
				if got := summary.Value(op, s, scale); got != bad(api.EvType) {
					t.Error(op, s, got)
				}
			}
		}
	}
}

// P5.5 and P5.6

const columnScale = 2

// anyValue is a value of any kind, of great and small numbers, and of wrong ones.
func anyValue(r *rand.Rand) api.Value {
	switch r.IntN(14) {
	case 0:
		return api.Value{}
	case 1:
		return api.Value{Kind: api.VFlag, Flag: r.IntN(2) == 0}
	case 2:
		return api.Value{Kind: api.VText, Text: "a"}
	case 3:
		return bad(r.IntN(8) - 1)
	case 4:
		return num(dec(int64(r.IntN(5)), r.IntN(5)-1))
	case 5:
		return api.Value{Kind: r.IntN(9) - 2, Err: r.IntN(3)}
	case 6:
		return num(dec(int64(r.IntN(5)-2), columnScale))
	case 7:
		return num(api.Dec{Neg: r.IntN(2) == 0, N: most, Scale: columnScale})
	}
	w := anyWide(r)
	return num(api.Dec{Neg: r.IntN(2) == 0, N: api.Nat{w[0], w[1], w[2], w[3]}, Scale: columnScale})
}

// anySum is a summary that need be of no column: the scales of its numbers differ.
func anySum(r *rand.Rand) api.Sum {
	s := api.Sum{Rows: r.IntN(9), Filled: r.IntN(9), Blank: r.IntN(9), Bad: r.IntN(9), Err: r.IntN(9) - 2, Total: anyWide(r)}
	if r.IntN(3) > 0 {
		scale := r.IntN(3)
		s.Some = true
		s.Min = dec(int64(r.IntN(3)-1)*[]int64{1, 10, 100}[scale], scale)
		scale = r.IntN(3)
		s.Max = dec(int64(r.IntN(3)-1)*[]int64{1, 10, 100}[scale], scale)
	}
	return s
}

// joined is Join of parts, put together in some shape.
func joined(r *rand.Rand, parts []api.Sum) api.Sum {
	if len(parts) == 0 {
		return summary.Join()
	}
	if len(parts) == 1 {
		return parts[0]
	}
	var groups []api.Sum
	for len(parts) > 0 {
		n := r.IntN(len(parts) + 1)
		if len(groups) == 0 {
			n = min(n, len(parts)-1)
		}
		groups = append(groups, joined(r, parts[:n]))
		parts = parts[n:]
	}
	return summary.Join(groups...)
}

func TestMonoid(t *testing.T) {
	r := rand.New(rand.NewPCG(5, 3))
	for range 4000 {
		var parts []api.Sum
		for range r.IntN(12) {
			if r.IntN(2) == 0 {
				parts = append(parts, summary.Of(anyValue(r), columnScale))
			} else {
				parts = append(parts, anySum(r))
			}
		}
		all := summary.Join(parts...)
		for range 3 {
			if got := joined(r, parts); got != all {
				t.Fatal(parts, got, all)
			}
		}
	}
}

func TestNeutral(t *testing.T) {
	r := rand.New(rand.NewPCG(5, 4))
	none := summary.Join()
	for range 2000 {
		s := anySum(r)
		if summary.Join(none, s) != s || summary.Join(s, none) != s || summary.Join(none, s, none, none) != s {
			t.Fatal(s)
		}
	}
}

// plain is the summary of a column, reckoned by great numbers value by value.
func plain(column []api.Value) api.Sum {
	var s api.Sum
	total := new(big.Int)
	for _, v := range column {
		s.Rows++
		err := 0
		switch v.Kind {
		case api.VBlank:
			s.Blank++
			continue
		case api.VFlag, api.VText:
			s.Filled++
			continue
		case api.VNum:
			if v.Num.Scale == columnScale && (!v.Num.Neg || v.Num.N != api.Nat{}) {
				s.Filled++
				total.Add(total, digits(v.Num))
				if !s.Some || digits(v.Num).Cmp(digits(s.Min)) < 0 {
					s.Min = v.Num
				}
				if !s.Some || digits(v.Num).Cmp(digits(s.Max)) > 0 {
					s.Max = v.Num
				}
				s.Some = true
				continue
			}
			err = api.EvType
		case api.VErr:
			err = v.Err
		}
		if err < 1 {
			err = api.EvType
		}
		s.Bad++
		if s.Err == 0 || err < s.Err {
			s.Err = err
		}
	}
	s.Total = bigWide(total)
	return s
}

func TestColumns(t *testing.T) {
	r := rand.New(rand.NewPCG(5, 5))
	for range 3000 {
		var column []api.Value
		var parts []api.Sum
		for range r.IntN(20) {
			v := anyValue(r)
			column = append(column, v)
			parts = append(parts, summary.Of(v, columnScale))
		}
		want := plain(column)
		if got := joined(r, parts); got != want {
			t.Fatal(column, got, want)
		}
	}
}

func TestTotalIsExact(t *testing.T) {
	r := rand.New(rand.NewPCG(5, 6))
	over := 0
	for range 500 {
		// Great numbers of one sign, then those that undo them all but for a few.
		var column []api.Dec
		total := new(big.Int)
		add := func(d api.Dec) {
			column = append(column, d)
			total.Add(total, digits(d))
		}
		for range 1 + r.IntN(200) {
			d := api.Dec{N: most, Scale: columnScale}
			d.N[0] -= uint64(r.IntN(1000))
			add(d)
			if total.BitLen() > 256 {
				over++
			}
		}
		for i := range column[:len(column)-r.IntN(2)] {
			d := column[i]
			d.Neg = true
			add(d)
		}
		add(dec(int64(r.IntN(2000)-1000), columnScale))
		var parts []api.Sum
		for _, d := range column {
			parts = append(parts, summary.Of(num(d), columnScale))
		}
		want, fits := bigDec(total, columnScale)
		got, e := summary.Total(summary.Join(parts...), columnScale)
		if got != want || (e == api.OK) != fits {
			t.Fatal(got, e, want)
		}
	}
	if over == 0 {
		t.Error("no sum had more than 256 bits on the way")
	}
}

// As many parts as there may be, by joining a summary with itself.
func TestTotalOfVeryMany(t *testing.T) {
	for _, neg := range []bool{false, true} {
		d := api.Dec{Neg: neg, N: most}
		s := summary.Of(num(d), 0)
		many := summary.Join()
		want := digits(d)
		for range 59 {
			s = summary.Join(s, s)
			many = summary.Join(many, s)
			want.Lsh(want, 1)
			if s.Total != bigWide(want) || wideBig(s.Total).Cmp(want) != 0 {
				t.Fatal(s, want)
			}
			if _, e := summary.Total(s, 0); e != api.ErrOver {
				t.Fatal(s, e)
			}
		}
		sum := new(big.Int).Mul(digits(d), plus(power(60), -2))
		if wideBig(many.Total).Cmp(sum) != 0 || many.Rows != 1<<60-2 || many.Min != d || many.Max != d {
			t.Error(many)
		}
	}
}

func TestExamples(t *testing.T) {
	s := summary.Join(summary.Of(num(dec(250, 2)), 2), summary.Of(num(dec(-100, 2)), 2), summary.Of(api.Value{}, 2))
	if s.Rows != 3 || s.Filled != 2 || s.Blank != 1 || s.Bad != 0 || s.Err != 0 || s.Min != dec(-100, 2) || s.Max != dec(250, 2) {
		t.Error(s)
	}
	if d, e := summary.Total(s, 2); d != dec(150, 2) || e != api.OK {
		t.Error(d, e)
	}
	if v := summary.Value(api.AgSum, s, 2); v != num(dec(150, 2)) {
		t.Error(v)
	}
	if v := summary.Value(api.AgMin, s, 2); v != num(dec(-100, 2)) {
		t.Error(v)
	}
	if v := summary.Value(api.AgSum, summary.Join(), 2); v != num(dec(0, 2)) {
		t.Error(v)
	}
	if v := summary.Value(api.AgMin, summary.Join(), 2); v != bad(api.EvNone) {
		t.Error(v)
	}
}
