package decimal_test

import (
	"math"
	"math/big"
	"math/rand/v2"
	"testing"

	"excise/api"
	"excise/decimal"
)

const full = 1<<64 - 1

var (
	most     = api.Nat{full, full, full, full}
	policies = []int{api.HalfUp, api.HalfEven, api.Down, api.Up, api.Floor}
	noScale  = []int{math.MinInt, -1, 19, math.MaxInt}
	noPolicy = []int{math.MinInt, -1, 0, 6, math.MaxInt}
)

// bad are numbers that may not be.
func bad() []api.Dec {
	list := []api.Dec{{Neg: true}, {Neg: true, Scale: 18}}
	for _, scale := range noScale {
		list = append(list, api.Dec{Scale: scale}, api.Dec{N: api.Nat{1}, Scale: scale}, api.Dec{Neg: true, N: most, Scale: scale}, api.Dec{Neg: true, Scale: scale})
	}
	return list
}

// big256 is 2^256.
func big256() *big.Int { return new(big.Int).Lsh(big.NewInt(1), 256) }

func bigTen(n int) *big.Int { return new(big.Int).Exp(big.NewInt(10), big.NewInt(int64(n)), nil) }

func toBig(a api.Nat) *big.Int {
	sum := new(big.Int)
	for i := len(a) - 1; i >= 0; i-- {
		sum.Lsh(sum, 64)
		sum.Add(sum, new(big.Int).SetUint64(a[i]))
	}
	return sum
}

// toNat is b, which must be from 0 to 2^256 - 1.
func toNat(b *big.Int) api.Nat {
	if b.Sign() < 0 || b.BitLen() > 256 {
		panic("no number of 256 bits")
	}
	var out api.Nat
	left := new(big.Int).Set(b)
	mask := new(big.Int).SetUint64(full)
	for i := range out {
		out[i] = new(big.Int).And(left, mask).Uint64()
		left.Rsh(left, 64)
	}
	return out
}

// number is what a Dec says.
func number(a api.Dec) *big.Rat {
	n := toBig(a.N)
	if a.Neg {
		n.Neg(n)
	}
	return new(big.Rat).SetFrac(n, bigTen(a.Scale))
}

// atScale is the Dec with a scale whose number is r; ErrOver, if there is none.
func atScale(r *big.Rat, scale int) (api.Dec, api.Errno) {
	n := new(big.Rat).Mul(r, new(big.Rat).SetInt(bigTen(scale)))
	if !n.IsInt() || n.Num().BitLen() > 256 {
		return api.Dec{}, api.ErrOver
	}
	return api.Dec{Neg: n.Sign() < 0, N: toNat(new(big.Int).Abs(n.Num())), Scale: scale}, api.OK
}

// rounded is r rounded to a scale, said as the chapter says it: of the two next to it, one is taken.
func rounded(r *big.Rat, scale, policy int) *big.Rat {
	n := new(big.Rat).Mul(r, new(big.Rat).SetInt(bigTen(scale)))
	lower := new(big.Int).Div(n.Num(), n.Denom()) // rounds down, as the divisor is above 0
	if n.IsInt() {
		return r
	}
	upper := new(big.Int).Add(lower, big.NewInt(1))
	near, far := lower, upper
	if n.Sign() < 0 {
		near, far = upper, lower
	}
	toLower := new(big.Rat).Sub(n, new(big.Rat).SetInt(lower))
	half := toLower.Cmp(big.NewRat(1, 2))
	taken := lower
	switch policy {
	case api.HalfUp:
		taken = nearer(half, lower, upper, far)
	case api.HalfEven:
		even := lower
		if lower.Bit(0) == 1 {
			even = upper
		}
		taken = nearer(half, lower, upper, even)
	case api.Down:
		taken = near
	case api.Up:
		taken = far
	}
	return new(big.Rat).SetFrac(taken, bigTen(scale))
}

func nearer(half int, lower, upper, tie *big.Int) *big.Int {
	switch half {
	case -1:
		return lower
	case 1:
		return upper
	}
	return tie
}

func dec(n int64, scale int) api.Dec {
	d, e := decimal.OfInt(n, scale)
	if e != api.OK {
		panic("no such scale")
	}
	return d
}

// edges are numbers about powers of two and of ten, at scales from 0 to 18, above and below 0.
func edges() []api.Dec {
	var sizes []*big.Int
	about := func(n *big.Int) {
		for d := int64(-1); d <= 1; d++ {
			sizes = append(sizes, new(big.Int).Add(n, big.NewInt(d)))
		}
	}
	for _, n := range []int64{1, 5, 15, 25, 50, 100, 2500} {
		about(big.NewInt(n))
	}
	about(bigTen(18))
	about(new(big.Int).Mul(big.NewInt(5), bigTen(17)))
	about(new(big.Int).Lsh(big.NewInt(1), 64))
	about(new(big.Int).Lsh(big.NewInt(1), 128))
	about(new(big.Int).Lsh(big.NewInt(1), 255))
	about(new(big.Int).Div(big256(), bigTen(1)))
	about(new(big.Int).Div(big256(), bigTen(18)))
	about(bigTen(77))
	about(new(big.Int).Sub(big256(), big.NewInt(2)))
	var list []api.Dec
	for _, n := range sizes {
		for _, scale := range []int{0, 1, 2, 17, 18} {
			d := api.Dec{N: toNat(n), Scale: scale}
			list = append(list, d)
			if n.Sign() != 0 {
				d.Neg = true
				list = append(list, d)
			}
		}
	}
	return list
}

// few are some of the edges, for where all pairs or triples are gone through.
func few(step int) []api.Dec {
	all := edges()
	var list []api.Dec
	for i := 0; i < len(all); i += step {
		list = append(list, all[i])
	}
	return list
}

// anyDec is a number with as many bits as it comes, at any scale.
func anyDec(r *rand.Rand) api.Dec {
	n := api.Nat{r.Uint64(), r.Uint64(), r.Uint64(), r.Uint64()}
	size := new(big.Int).Rsh(toBig(n), uint(r.IntN(257)))
	if r.IntN(3) == 0 {
		// Numbers whose last digits are 0, or a half, are rare otherwise.
		cut := bigTen(r.IntN(19))
		size.Div(size, cut).Mul(size, cut)
		if cut.Cmp(big.NewInt(1)) > 0 && r.IntN(2) == 0 {
			size.Add(size, new(big.Int).Rsh(cut, 1))
		}
		if size.BitLen() > 256 {
			size.SetInt64(5)
		}
	}
	return api.Dec{Neg: size.Sign() > 0 && r.IntN(2) == 0, N: toNat(size), Scale: r.IntN(19)}
}

func pairs(visit func(a, b api.Dec)) {
	list := few(3)
	for _, a := range list {
		for _, b := range list {
			visit(a, b)
		}
	}
	r := rand.New(rand.NewPCG(2, 1))
	for range 20000 {
		visit(anyDec(r), anyDec(r))
	}
}

// P2.1.
func TestCheck(t *testing.T) {
	for _, a := range bad() {
		if e := decimal.Check(a); e != api.ErrDecimal {
			t.Error(a, e)
		}
	}
	for _, a := range append(edges(), api.Dec{}, api.Dec{Scale: 18}) {
		if e := decimal.Check(a); e != api.OK {
			t.Error(a, e)
		}
	}
}

// P2.1: the sign is as N and Neg say, of what may not be too.
func TestSign(t *testing.T) {
	cases := []struct {
		a    api.Dec
		want int
	}{
		{api.Dec{}, 0}, {api.Dec{Scale: 18}, 0}, {api.Dec{Neg: true}, 0}, {api.Dec{Neg: true, Scale: 19}, 0},
		{dec(1, 18), 1}, {dec(-1, 18), -1},
		{api.Dec{N: most, Scale: -1}, 1}, {api.Dec{Neg: true, N: api.Nat{0, 0, 0, 1}, Scale: 19}, -1},
		{api.Dec{N: api.Nat{0, 1}}, 1}, {api.Dec{Neg: true, N: api.Nat{0, 0, 1}}, -1},
	}
	for _, c := range cases {
		if got := decimal.Sign(c.a); got != c.want {
			t.Error(c.a, got)
		}
	}
}

// P2.1.
func TestWhole(t *testing.T) {
	for _, a := range edges() {
		if got := decimal.Whole(a); got != number(a).IsInt() {
			t.Error(a, got)
		}
	}
	for _, a := range []api.Dec{{}, {Scale: 18}, dec(-20, 1), dec(20, 1), {N: toNat(bigTen(18)), Scale: 18}} {
		if !decimal.Whole(a) {
			t.Error(a)
		}
	}
	for _, a := range append(bad(), dec(15, 1), dec(-10, 2)) {
		if decimal.Whole(a) {
			t.Error(a)
		}
	}
}

// P2.1.
func TestOfInt(t *testing.T) {
	for _, n := range []int64{0, 1, -1, 2, -10, math.MaxInt64, math.MinInt64, math.MinInt64 + 1} {
		for scale := range api.MaxScale + 1 {
			want := api.Dec{Neg: n < 0, N: toNat(new(big.Int).Abs(big.NewInt(n))), Scale: scale}
			if got, e := decimal.OfInt(n, scale); got != want || e != api.OK {
				t.Error(n, scale, got, e)
			}
		}
		for _, scale := range noScale {
			if got, e := decimal.OfInt(n, scale); got != (api.Dec{}) || e != api.ErrScale {
				t.Error(n, scale, got, e)
			}
		}
	}
}

// P2.2.
func TestAddSub(t *testing.T) {
	pairs(func(a, b api.Dec) {
		x, y, scale := number(a), number(b), max(a.Scale, b.Scale)
		want, wantErr := atScale(new(big.Rat).Add(x, y), scale)
		if got, e := decimal.Add(a, b); got != want || e != wantErr {
			t.Error("Add", a, b, got, e, want, wantErr)
		}
		want, wantErr = atScale(new(big.Rat).Sub(x, y), scale)
		if got, e := decimal.Sub(a, b); got != want || e != wantErr {
			t.Error("Sub", a, b, got, e, want, wantErr)
		}
	})
}

// P2.2: the edges of room, and sums with room whose parts, at the greater scale, have none.
func TestAddRoom(t *testing.T) {
	greatest := api.Dec{N: most}
	least := api.Dec{Neg: true, N: most}
	if got, e := decimal.Add(api.Dec{N: api.Nat{full - 1, full, full, full}}, dec(1, 0)); got != greatest || e != api.OK {
		t.Error(got, e)
	}
	if got, e := decimal.Sub(api.Dec{Neg: true, N: api.Nat{full - 1, full, full, full}}, dec(1, 0)); got != least || e != api.OK {
		t.Error(got, e)
	}
	for _, e := range []api.Errno{errOf(decimal.Add(greatest, dec(1, 0))), errOf(decimal.Sub(least, dec(1, 0))), errOf(decimal.Add(greatest, greatest)), errOf(decimal.Add(greatest, dec(0, 1))), errOf(decimal.Add(greatest, api.Dec{N: most, Scale: 18}))} {
		if e != api.ErrOver {
			t.Error(e)
		}
	}
	if got, e := decimal.Sub(greatest, greatest); got != (api.Dec{}) || e != api.OK {
		t.Error(got, e)
	}
	// x times ten to the 18 is 2^256 or a little above it: less all of 2^256 - 1 it has room.
	x := new(big.Int).Div(big256(), bigTen(18))
	x.Add(x, big.NewInt(1))
	a, b := api.Dec{N: toNat(x)}, api.Dec{Neg: true, N: most, Scale: 18}
	want, _ := atScale(new(big.Rat).Add(number(a), number(b)), 18)
	if got, e := decimal.Add(a, b); got != want || e != api.OK || got.Neg {
		t.Error(got, e)
	}
	if got, e := decimal.Add(b, a); got != want || e != api.OK {
		t.Error(got, e)
	}
	if got, e := decimal.Rescale(a, 18, api.Down); got != (api.Dec{}) || e != api.ErrOver {
		t.Error(got, e)
	}
}

func errOf(got api.Dec, e api.Errno) api.Errno {
	if got != (api.Dec{}) && e != api.OK {
		return -1 // beside an error stands nothing
	}
	return e
}

// P2.2.
func TestMul(t *testing.T) {
	pairs(func(a, b api.Dec) {
		want, wantErr := api.Dec{}, api.ErrScale
		if a.Scale+b.Scale <= api.MaxScale {
			want, wantErr = atScale(new(big.Rat).Mul(number(a), number(b)), a.Scale+b.Scale)
		}
		if got, e := decimal.Mul(a, b); got != want || e != wantErr {
			t.Error(a, b, got, e, want, wantErr)
		}
	})
	if got, e := decimal.Mul(dec(-3, 9), dec(7, 9)); got != dec(-21, 18) || e != api.OK {
		t.Error(got, e)
	}
	if got, e := decimal.Mul(dec(0, 9), dec(-7, 8)); got != dec(0, 17) || e != api.OK {
		t.Error(got, e)
	}
	// 2^256 - 1 is 2^128 - 1 times 2^128 + 1; 2^128 times itself has no room.
	low, mid, up := api.Dec{N: api.Nat{full, full}}, api.Dec{N: api.Nat{0, 0, 1}}, api.Dec{Neg: true, N: api.Nat{1, 0, 1}}
	if got, e := decimal.Mul(low, up); got != (api.Dec{Neg: true, N: most}) || e != api.OK {
		t.Error(got, e)
	}
	if e := errOf(decimal.Mul(mid, mid)); e != api.ErrOver {
		t.Error(e)
	}
	// Scales that do not suit are said ahead of room that is not there.
	if e := errOf(decimal.Mul(api.Dec{N: most, Scale: 18}, api.Dec{N: most, Scale: 1})); e != api.ErrScale {
		t.Error(e)
	}
}

// P2.2.
func TestNegAbs(t *testing.T) {
	for _, a := range edges() {
		want, _ := atScale(new(big.Rat).Neg(number(a)), a.Scale)
		if got, e := decimal.Neg(a); got != want || e != api.OK {
			t.Error("Neg", a, got, e)
		}
		want, _ = atScale(new(big.Rat).Abs(number(a)), a.Scale)
		if got, e := decimal.Abs(a); got != want || e != api.OK {
			t.Error("Abs", a, got, e)
		}
	}
}

// P2.2, P2.3: what may not be is said ahead of all else.
func TestWrongNumbers(t *testing.T) {
	good := []api.Dec{dec(0, 0), dec(-5, 18), {N: most, Scale: 18}}
	for _, a := range bad() {
		for _, b := range append(good, a) {
			for _, e := range []api.Errno{
				errOf(decimal.Add(a, b)), errOf(decimal.Add(b, a)), errOf(decimal.Sub(a, b)), errOf(decimal.Sub(b, a)),
				errOf(decimal.Mul(a, b)), errOf(decimal.Mul(b, a)), errOf(decimal.Neg(a)), errOf(decimal.Abs(a)), errOf(decimal.Trim(a)),
				errOf(decimal.MulTo(a, b, 2, api.Up)), errOf(decimal.MulTo(b, a, 2, api.Up)), errOf(decimal.MulTo(b, a, -1, 0)), errOf(decimal.MulTo(a, b, 19, 6)),
				errOf(decimal.Rescale(a, 2, api.Up)), errOf(decimal.Rescale(a, 19, 6)),
			} {
				if e != api.ErrDecimal {
					t.Error(a, b, e)
				}
			}
		}
	}
}

// P2.3: a scale that may not be is said ahead of a policy that there is not, and that ahead of room.
func TestWrongRounding(t *testing.T) {
	big := api.Dec{N: most}
	for _, a := range []api.Dec{dec(0, 0), dec(-25, 1), big} {
		for _, scale := range noScale {
			for _, policy := range append(noPolicy, policies...) {
				if e, f := errOf(decimal.Rescale(a, scale, policy)), errOf(decimal.MulTo(a, big, scale, policy)); e != api.ErrScale || f != api.ErrScale {
					t.Error(a, scale, policy, e, f)
				}
			}
		}
		for _, policy := range noPolicy {
			for scale := range api.MaxScale + 1 {
				if e, f := errOf(decimal.Rescale(a, scale, policy)), errOf(decimal.MulTo(a, big, scale, policy)); e != api.ErrPolicy || f != api.ErrPolicy {
					t.Error(a, scale, policy, e, f)
				}
			}
		}
	}
}

// P2.3.
func TestRescale(t *testing.T) {
	for _, a := range edges() {
		for scale := range api.MaxScale + 1 {
			for _, policy := range policies {
				want, wantErr := atScale(rounded(number(a), scale, policy), scale)
				if got, e := decimal.Rescale(a, scale, policy); got != want || e != wantErr {
					t.Error(a, scale, policy, got, e, want, wantErr)
				}
			}
		}
	}
}

// P2.3: the chapter's example, and numbers half-way, a little less and a little more, of both signs.
func TestRounding(t *testing.T) {
	cases := []struct {
		n     int64
		scale int
		want  [5]int64 // by HalfUp, HalfEven, Down, Up, Floor
	}{
		{25, 1, [5]int64{3, 2, 2, 3, 2}},
		{-25, 1, [5]int64{-3, -2, -2, -3, -3}},
		{35, 1, [5]int64{4, 4, 3, 4, 3}},
		{-35, 1, [5]int64{-4, -4, -3, -4, -4}},
		{5, 1, [5]int64{1, 0, 0, 1, 0}},
		{-5, 1, [5]int64{-1, 0, 0, -1, -1}},
		{249, 2, [5]int64{2, 2, 2, 3, 2}},
		{-249, 2, [5]int64{-2, -2, -2, -3, -3}},
		{251, 2, [5]int64{3, 3, 2, 3, 2}},
		{-251, 2, [5]int64{-3, -3, -2, -3, -3}},
		{200, 2, [5]int64{2, 2, 2, 2, 2}},
		{-200, 2, [5]int64{-2, -2, -2, -2, -2}},
		{1, 18, [5]int64{0, 0, 0, 1, 0}},
		{-1, 18, [5]int64{0, 0, 0, -1, -1}},
		{0, 18, [5]int64{}},
		{500000000000000000, 18, [5]int64{1, 0, 0, 1, 0}},
		{499999999999999999, 18, [5]int64{0, 0, 0, 1, 0}},
		{-500000000000000001, 18, [5]int64{-1, -1, 0, -1, -1}},
	}
	for _, c := range cases {
		for i, policy := range policies {
			if got, e := decimal.Rescale(dec(c.n, c.scale), 0, policy); got != dec(c.want[i], 0) || e != api.OK {
				t.Error(c.n, c.scale, policy, got, e)
			}
		}
	}
}

// P2.3.
func TestMulTo(t *testing.T) {
	if got, e := decimal.MulTo(dec(5, 2), dec(1010, 2), 2, api.HalfUp); got != dec(51, 2) || e != api.OK {
		t.Error(got, e)
	}
	list := few(7)
	check := func(a, b api.Dec, scale, policy int) {
		want, wantErr := atScale(rounded(new(big.Rat).Mul(number(a), number(b)), scale, policy), scale)
		if got, e := decimal.MulTo(a, b, scale, policy); got != want || e != wantErr {
			t.Error(a, b, scale, policy, got, e, want, wantErr)
		}
	}
	for _, a := range list {
		for _, b := range list {
			for _, scale := range []int{0, 1, 9, 18} {
				check(a, b, scale, policies[(a.Scale+b.Scale+scale)%len(policies)])
			}
		}
	}
	r := rand.New(rand.NewPCG(2, 2))
	for range 30000 {
		check(anyDec(r), anyDec(r), r.IntN(19), policies[r.IntN(5)])
	}
	// No scale of the product is too great: 18 and 18 are 36.
	if got, e := decimal.MulTo(dec(-1500000000, 18), dec(1000000000, 18), 18, api.HalfEven); got != dec(-2, 18) || e != api.OK {
		t.Error(got, e)
	}
}

// P2.3: products that are a few tenths below 2^256, which have room or not as they are rounded.
func TestRoundingRoom(t *testing.T) {
	tens := new(big.Int).Mul(big256(), big.NewInt(10))
	bys := []int64{535006138814359} // divides 2^257 - 1, so that half of one is left
	for by := int64(11); by < 200; by++ {
		bys = append(bys, by)
	}
	seen := map[int64]bool{}
	for _, by := range bys {
		size, rest := new(big.Int).DivMod(tens, big.NewInt(by), new(big.Int))
		left := rest.Int64()
		if left < 1 || left > 9 {
			continue
		}
		seen[left] = true
		for _, neg := range []bool{false, true} {
			a, b := api.Dec{Neg: neg, N: toNat(size), Scale: 1}, dec(by, 0)
			fits := map[int]bool{api.HalfUp: left > 5, api.HalfEven: left > 5, api.Down: true, api.Up: false, api.Floor: !neg}
			for policy, room := range fits {
				got, e := decimal.MulTo(a, b, 0, policy)
				if room && (got != api.Dec{Neg: neg, N: most} || e != api.OK) || !room && errOf(got, e) != api.ErrOver {
					t.Error(left, neg, policy, got, e)
				}
			}
		}
	}
	for _, left := range []int64{4, 5, 6} {
		if !seen[left] {
			t.Error("no product with", left)
		}
	}
}

// P2.3: to greater scales there may be no room.
func TestRescaleRoom(t *testing.T) {
	for scale := 1; scale <= api.MaxScale; scale++ {
		last := new(big.Int).Div(new(big.Int).Sub(big256(), big.NewInt(1)), bigTen(scale))
		next := new(big.Int).Add(last, big.NewInt(1))
		for _, policy := range policies {
			want, _ := atScale(new(big.Rat).SetInt(last), scale)
			if got, e := decimal.Rescale(api.Dec{N: toNat(last)}, scale, policy); got != want || e != api.OK {
				t.Error(scale, got, e)
			}
			if e := errOf(decimal.Rescale(api.Dec{Neg: true, N: toNat(next)}, scale, policy)); e != api.ErrOver {
				t.Error(scale, e)
			}
		}
	}
}

// P2.3, P2.7.
func TestTrim(t *testing.T) {
	for _, a := range append(edges(), dec(1500, 3), dec(0, 18), dec(-1000, 18), dec(-10, 1), dec(100, 0)) {
		want, wantErr := api.Dec{}, api.ErrOver
		for scale := 0; wantErr != api.OK; scale++ {
			want, wantErr = atScale(number(a), scale)
		}
		got, e := decimal.Trim(a)
		if got != want || e != api.OK || decimal.Cmp(a, got) != 0 {
			t.Error(a, got, e)
		}
	}
}

// P2.4.
func TestCmp(t *testing.T) {
	pairs(func(a, b api.Dec) {
		if got := decimal.Cmp(a, b); got != number(a).Cmp(number(b)) {
			t.Error(a, b, got)
		}
	})
	for _, a := range bad() {
		for _, b := range append(bad(), dec(1, 0), dec(-1, 18)) {
			if decimal.Cmp(a, b) != 0 || decimal.Cmp(b, a) != 0 {
				t.Error(a, b)
			}
		}
	}
	if decimal.Cmp(api.Dec{N: most}, api.Dec{N: most, Scale: 18}) != 1 || decimal.Cmp(dec(10, 1), dec(1, 0)) != 0 || decimal.Cmp(dec(0, 0), dec(0, 18)) != 0 {
		t.Error("scales")
	}
}

// P2.5.
func TestUndo(t *testing.T) {
	pairs(func(a, b api.Dec) {
		sum, e := decimal.Add(a, b)
		if other, f := decimal.Add(b, a); other != sum || f != e {
			t.Error("order of Add", a, b)
		}
		product, f := decimal.Mul(a, b)
		if other, g := decimal.Mul(b, a); other != product || g != f {
			t.Error("order of Mul", a, b)
		}
		if e != api.OK {
			return
		}
		if back, e := decimal.Sub(sum, b); e == api.OK && decimal.Cmp(back, a) != 0 {
			t.Error("Sub of Add", a, b, back)
		}
	})
}

// P2.6.
func TestRoundingFollows(t *testing.T) {
	r := rand.New(rand.NewPCG(2, 3))
	list := edges()
	for range 5000 {
		list = append(list, anyDec(r))
	}
	for _, a := range list {
		scale := r.IntN(19)
		var answers [6]api.Dec
		for _, policy := range policies {
			got, e := decimal.Rescale(a, scale, policy)
			if e != api.OK {
				continue
			}
			answers[policy] = got
			off := new(big.Rat).Abs(new(big.Rat).Sub(number(got), number(a)))
			off.Mul(off, new(big.Rat).SetInt(bigTen(scale)))
			half := policy == api.HalfUp || policy == api.HalfEven
			if off.Cmp(big.NewRat(1, 1)) >= 0 || half && off.Cmp(big.NewRat(1, 2)) > 0 || scale >= a.Scale && off.Sign() != 0 {
				t.Error("off", a, scale, policy, got)
			}
			for _, again := range policies {
				if same, e := decimal.Rescale(got, scale, again); same != got || e != api.OK {
					t.Error("again", a, scale, policy, again, same, e)
				}
			}
		}
		if answers[api.HalfUp] != answers[api.HalfEven] && !isHalfWay(a, scale) {
			t.Error("not half-way", a, scale)
		}
	}
}

func isHalfWay(a api.Dec, scale int) bool {
	twice := new(big.Rat).Mul(number(a), new(big.Rat).SetInt(bigTen(scale)))
	whole := twice.IsInt()
	return !whole && twice.Mul(twice, big.NewRat(2, 1)).IsInt()
}

// P2.7: Cmp is an order, that Add and Neg respect.
func TestOrder(t *testing.T) {
	list := few(11)
	for _, a := range list {
		for _, b := range list {
			order := decimal.Cmp(a, b)
			if decimal.Cmp(b, a) != -order {
				t.Error("turned", a, b)
			}
			x, _ := decimal.Neg(a)
			y, _ := decimal.Neg(b)
			if decimal.Cmp(x, y) != -order {
				t.Error("Neg", a, b)
			}
			for _, c := range list {
				if order <= 0 && decimal.Cmp(b, c) <= 0 && decimal.Cmp(a, c) > 0 {
					t.Error("no order", a, b, c)
				}
				p, e := decimal.Add(a, c)
				q, f := decimal.Add(b, c)
				if e == api.OK && f == api.OK && decimal.Cmp(p, q) != order {
					t.Error("Add", a, b, c)
				}
			}
		}
	}
}

// The chapter's first example.
func TestExample(t *testing.T) {
	if got, e := decimal.Add(dec(15, 1), dec(225, 2)); got != dec(375, 2) || e != api.OK {
		t.Error(got, e)
	}
	if got, e := decimal.Sub(dec(15, 1), dec(225, 2)); got != dec(-75, 2) || e != api.OK {
		t.Error(got, e)
	}
	if got, e := decimal.Sub(dec(225, 2), dec(2250, 3)); got != dec(0, 3) || e != api.OK {
		t.Error(got, e)
	}
}
