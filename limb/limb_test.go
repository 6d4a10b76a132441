package limb_test

import (
	"math/big"
	"math/rand/v2"
	"strings"
	"testing"

	"excise/api"
	"excise/limb"
)

const (
	top  = 1 << 63
	full = 1<<64 - 1

	mostText = "115792089237316195423570985008687907853269984665640564039457584007913129639935"
	overText = "115792089237316195423570985008687907853269984665640564039457584007913129639936"
)

var (
	zero = api.Nat{}
	one  = api.Nat{1}
	most = api.Nat{full, full, full, full}
)

// big256 is 2^256.
func big256() *big.Int { return new(big.Int).Lsh(big.NewInt(1), 256) }

func toBig(a api.Nat) *big.Int {
	sum := new(big.Int)
	for i := len(a) - 1; i >= 0; i-- {
		sum.Lsh(sum, 64)
		sum.Add(sum, new(big.Int).SetUint64(a[i]))
	}
	return sum
}

// toNat is b, which must be from 0 to 2^256 - 1.
func toNat(b *big.Int) api.Nat {
	if b.Sign() < 0 || b.BitLen() > 256 {
		panic("no number of 256 bits")
	}
	var out api.Nat
	left := new(big.Int).Set(b)
	mask := new(big.Int).SetUint64(full)
	for i := range out {
		out[i] = new(big.Int).And(left, mask).Uint64()
		left.Rsh(left, 64)
	}
	return out
}

// pairBig is high times 2^256 and low.
func pairBig(high, low api.Nat) *big.Int {
	both := new(big.Int).Mul(toBig(high), big256())
	return both.Add(both, toBig(low))
}

// edges are numbers whose limbs are all at an edge, and some about powers of two and of ten.
func edges() []api.Nat {
	var out []api.Nat
	limbs := []uint64{0, 1, top, full}
	for i := range 256 {
		out = append(out, api.Nat{limbs[i%4], limbs[i/4%4], limbs[i/16%4], limbs[i/64]})
	}
	for _, n := range []uint{1, 3, 32, 63, 64, 65, 127, 128, 129, 191, 192, 193, 254, 255} {
		power := new(big.Int).Lsh(big.NewInt(1), n)
		out = append(out, toNat(power), toNat(new(big.Int).Sub(power, big.NewInt(1))), toNat(new(big.Int).Add(power, big.NewInt(1))))
	}
	for n := range int64(78) {
		power := new(big.Int).Exp(big.NewInt(10), big.NewInt(n), nil)
		out = append(out, toNat(power), toNat(new(big.Int).Sub(power, big.NewInt(1))))
	}
	return out
}

// anyNat is a number of any length, with limbs at edges among its limbs.
func anyNat(r *rand.Rand) api.Nat {
	var a api.Nat
	for i := range 1 + r.IntN(4) {
		switch r.IntN(8) {
		case 0:
			a[i] = 0
		case 1:
			a[i] = full
		case 2:
			a[i] = top
		case 3:
			a[i] = full - uint64(r.IntN(3))
		case 4:
			a[i] = uint64(r.IntN(3))
		case 5:
			a[i] = r.Uint64() >> r.IntN(64)
		default:
			a[i] = r.Uint64()
		}
	}
	return a
}

// eachPair hands on all pairs of edges, and many others.
func eachPair(do func(a, b api.Nat)) {
	all := edges()
	for _, a := range all {
		for _, b := range all {
			do(a, b)
		}
	}
	r := rand.New(rand.NewPCG(1, 1))
	for range 20000 {
		do(anyNat(r), anyNat(r))
	}
}

// eachTriple hands on many triples, of edges and of others.
func eachTriple(do func(a, b, c api.Nat)) {
	all := edges()
	r := rand.New(rand.NewPCG(1, 2))
	pick := func() api.Nat {
		if r.IntN(2) == 0 {
			return all[r.IntN(len(all))]
		}
		return anyNat(r)
	}
	for range 60000 {
		do(pick(), pick(), pick())
	}
}

// P1.1

func TestFrom(t *testing.T) {
	for _, u := range []uint64{0, 1, 10, top - 1, top, full} {
		if a := limb.From(u); a != (api.Nat{u, 0, 0, 0}) {
			t.Error(u, a)
		}
	}
}

func TestCmp(t *testing.T) {
	for _, c := range []struct {
		a, b api.Nat
		want int
	}{
		{zero, zero, 0},
		{zero, one, -1},
		{one, zero, 1},
		{most, most, 0},
		{most, zero, 1},
		{zero, most, -1},
		{api.Nat{0, 1}, api.Nat{full}, 1},
		{api.Nat{full, full, full}, api.Nat{0, 0, 0, 1}, -1},
		{api.Nat{1, 5, 5, 5}, api.Nat{2, 5, 5, 5}, -1},
		{api.Nat{0, 0, 2, 7}, api.Nat{0, 0, 1, 7}, 1},
		{api.Nat{9, 9, 9, top}, api.Nat{0, 0, 0, top - 1}, 1},
	} {
		if got := limb.Cmp(c.a, c.b); got != c.want {
			t.Error(c.a, c.b, got)
		}
	}
	eachPair(func(a, b api.Nat) {
		if got := limb.Cmp(a, b); got != toBig(a).Cmp(toBig(b)) {
			t.Fatal(a, b, got)
		}
	})
}

func TestAdd(t *testing.T) {
	for _, c := range []struct {
		a, b, sum api.Nat
		over      bool
	}{
		{zero, zero, zero, false},
		{api.Nat{2}, api.Nat{3}, api.Nat{5}, false},
		{api.Nat{full}, one, api.Nat{0, 1}, false},
		{api.Nat{full, full, full}, one, api.Nat{0, 0, 0, 1}, false},
		{most, zero, most, false},
		{api.Nat{full - 1, full, full, full}, one, most, false},
		{most, one, zero, true},
		{most, most, api.Nat{full - 1, full, full, full}, true},
		{api.Nat{0, 0, 0, top}, api.Nat{0, 0, 0, top}, zero, true},
	} {
		if sum, over := limb.Add(c.a, c.b); sum != c.sum || over != c.over {
			t.Error(c.a, c.b, sum, over)
		}
	}
	eachPair(func(a, b api.Nat) {
		want := new(big.Int).Add(toBig(a), toBig(b))
		over := want.BitLen() > 256
		if over {
			want.Sub(want, big256())
		}
		if sum, o := limb.Add(a, b); o != over || sum != toNat(want) {
			t.Fatal(a, b, sum, o)
		}
	})
}

func TestSub(t *testing.T) {
	for _, c := range []struct {
		a, b, rest api.Nat
		under      bool
	}{
		{zero, zero, zero, false},
		{api.Nat{5}, api.Nat{3}, api.Nat{2}, false},
		{api.Nat{0, 1}, one, api.Nat{full}, false},
		{api.Nat{0, 0, 0, 1}, one, api.Nat{full, full, full}, false},
		{most, most, zero, false},
		{zero, one, most, true},
		{zero, most, one, true},
		{api.Nat{3}, api.Nat{5}, api.Nat{full - 1, full, full, full}, true},
		{one, api.Nat{0, 0, 0, top}, api.Nat{1, 0, 0, top}, true},
	} {
		if rest, under := limb.Sub(c.a, c.b); rest != c.rest || under != c.under {
			t.Error(c.a, c.b, rest, under)
		}
	}
	eachPair(func(a, b api.Nat) {
		want := new(big.Int).Sub(toBig(a), toBig(b))
		under := want.Sign() < 0
		if under {
			want.Add(want, big256())
		}
		if rest, u := limb.Sub(a, b); u != under || rest != toNat(want) {
			t.Fatal(a, b, rest, u)
		}
	})
}

func TestBits(t *testing.T) {
	for n := range uint(256) {
		power := new(big.Int).Lsh(big.NewInt(1), n)
		if got := limb.Bits(toNat(power)); got != int(n)+1 {
			t.Error(n, got)
		}
		if got := limb.Bits(toNat(power.Sub(power, big.NewInt(1)))); got != int(n) {
			t.Error(n, got)
		}
	}
	if got := limb.Bits(zero); got != 0 {
		t.Error(got)
	}
	if got := limb.Bits(most); got != 256 {
		t.Error(got)
	}
	for _, a := range edges() {
		if got := limb.Bits(a); got != toBig(a).BitLen() {
			t.Error(a, got)
		}
	}
}

func TestOdd(t *testing.T) {
	for _, c := range []struct {
		a    api.Nat
		want bool
	}{
		{zero, false},
		{one, true},
		{api.Nat{2}, false},
		{most, true},
		{api.Nat{full - 1, full, full, full}, false},
		{api.Nat{0, 1, 1, 1}, false},
		{api.Nat{1, 0, 0, 2}, true},
	} {
		if got := limb.Odd(c.a); got != c.want {
			t.Error(c.a, got)
		}
	}
}

// P1.2

func TestMul(t *testing.T) {
	for _, c := range []struct{ a, b, high, low api.Nat }{
		{zero, zero, zero, zero},
		{zero, most, zero, zero},
		{one, most, zero, most},
		{api.Nat{6}, api.Nat{7}, zero, api.Nat{42}},
		{api.Nat{full}, api.Nat{full}, zero, api.Nat{1, full - 1}},
		{api.Nat{0, 0, 0, top}, api.Nat{2}, one, zero},
		{api.Nat{0, 0, 1}, api.Nat{0, 0, 1}, one, zero},
		{api.Nat{0, 0, 0, 1}, api.Nat{0, 0, 0, 1}, api.Nat{0, 0, 1}, zero},
		{most, api.Nat{2}, one, api.Nat{full - 1, full, full, full}},
		{most, most, api.Nat{full - 1, full, full, full}, one},
	} {
		if high, low := limb.Mul(c.a, c.b); high != c.high || low != c.low {
			t.Error(c.a, c.b, high, low)
		}
	}
	eachPair(func(a, b api.Nat) {
		high, low := limb.Mul(a, b)
		if pairBig(high, low).Cmp(new(big.Int).Mul(toBig(a), toBig(b))) != 0 {
			t.Fatal(a, b, high, low)
		}
	})
}

func TestDiv(t *testing.T) {
	for _, c := range []struct {
		high, low, by, quotient, rest api.Nat
		ok                            bool
	}{
		{zero, zero, one, zero, zero, true},
		{zero, api.Nat{7}, api.Nat{2}, api.Nat{3}, one, true},
		{zero, api.Nat{7}, api.Nat{8}, zero, api.Nat{7}, true},
		{zero, most, one, most, zero, true},
		{zero, most, most, one, zero, true},
		{zero, api.Nat{full - 1, full, full, full}, most, zero, api.Nat{full - 1, full, full, full}, true},
		{one, zero, api.Nat{2}, api.Nat{0, 0, 0, top}, zero, true},
		{one, api.Nat{1}, api.Nat{2}, api.Nat{0, 0, 0, top}, one, true},
		{one, most, api.Nat{2}, most, one, true},
		{api.Nat{full - 1, full, full, full}, most, most, most, api.Nat{full - 1, full, full, full}, true},
		{zero, zero, zero, zero, zero, false},
		{zero, api.Nat{7}, zero, zero, zero, false},
		{most, most, zero, zero, zero, false},
		{one, zero, one, zero, zero, false},
		{api.Nat{2}, zero, api.Nat{2}, zero, zero, false},
		{api.Nat{3}, most, api.Nat{2}, zero, zero, false},
		{most, zero, most, zero, zero, false},
		{most, most, api.Nat{full - 1, full, full, full}, zero, zero, false},
	} {
		quotient, rest, ok := limb.Div(c.high, c.low, c.by)
		if quotient != c.quotient || rest != c.rest || ok != c.ok {
			t.Error(c.high, c.low, c.by, quotient, rest, ok)
		}
	}
}

func TestDivAgainstBig(t *testing.T) {
	done := 0
	check := func(high, low, by api.Nat) {
		quotient, rest, ok := limb.Div(high, low, by)
		if limb.Cmp(high, by) >= 0 {
			if ok || quotient != zero || rest != zero {
				t.Fatal(high, low, by, quotient, rest, ok)
			}
			return
		}
		done++
		q, r := new(big.Int).QuoRem(pairBig(high, low), toBig(by), new(big.Int))
		if !ok || quotient != toNat(q) || rest != toNat(r) {
			t.Fatal(high, low, by, quotient, rest, ok)
		}
	}
	eachTriple(func(a, b, c api.Nat) {
		check(a, b, c)
		check(c, b, a)
		check(zero, b, c)
		// High just below the divisor: the guesses are at their greatest.
		below, _ := limb.Sub(c, api.Nat{a[0] % 3, a[1] % 2})
		check(below, b, c)
	})
	if done < 100000 {
		t.Error("too few quotients:", done)
	}
}

// The limbs of these quotients, guessed from the top limbs alone, are 1 or 2 too great.
func TestDivGuessTooGreat(t *testing.T) {
	for _, c := range []struct{ high, by api.Nat }{
		{api.Nat{0, 0, full, top - 1}, api.Nat{full, full, full, top}},
		{api.Nat{full, full, full, top - 1}, api.Nat{0, 0, 0, top}},
		{api.Nat{0, 0, 0, top}, api.Nat{1, 0, 0, top}},
		{api.Nat{0, 0, 0, top}, api.Nat{0, full, full, top}},
		{api.Nat{0, 0, full - 1, top}, api.Nat{full, full, full, top}},
		{api.Nat{0, 0, 0, 1}, api.Nat{full, full, full, 1}},
	} {
		for _, low := range []api.Nat{zero, one, most, {0, 0, 0, full}, {full, 0, full, 0}} {
			quotient, rest, ok := limb.Div(c.high, low, c.by)
			q, r := new(big.Int).QuoRem(pairBig(c.high, low), toBig(c.by), new(big.Int))
			if !ok || quotient != toNat(q) || rest != toNat(r) {
				t.Error(c.high, low, c.by, quotient, rest, ok)
			}
		}
	}
}

func TestTen(t *testing.T) {
	want := big.NewInt(1)
	for n := range 78 {
		if got, ok := limb.Ten(n); !ok || got != toNat(want) {
			t.Error(n, got, ok)
		}
		want.Mul(want, big.NewInt(10))
	}
	for _, n := range []int{-1, 78, 79, 1000, -78, 1<<63 - 1, -1 << 63} {
		if got, ok := limb.Ten(n); ok || got != zero {
			t.Error(n, got, ok)
		}
	}
}

// P1.3

func TestText(t *testing.T) {
	for _, c := range []struct {
		a    api.Nat
		want string
	}{
		{zero, "0"},
		{one, "1"},
		{api.Nat{9}, "9"},
		{api.Nat{10}, "10"},
		{api.Nat{1000}, "1000"},
		{api.Nat{full}, "18446744073709551615"},
		{api.Nat{0, 1}, "18446744073709551616"},
		{most, mostText},
	} {
		if got := limb.Text(c.a); got != c.want {
			t.Error(c.a, got)
		}
	}
	for _, a := range edges() {
		if got := limb.Text(a); got != toBig(a).String() {
			t.Error(a, got)
		}
	}
}

func TestParse(t *testing.T) {
	for _, c := range []struct {
		s    string
		want api.Nat
	}{
		{"0", zero},
		{"1", one},
		{"9", api.Nat{9}},
		{"10", api.Nat{10}},
		{"18446744073709551616", api.Nat{0, 1}},
		{mostText, most},
	} {
		if got, e := limb.Parse(c.s); e != api.OK || got != c.want {
			t.Error(c.s, got, e)
		}
	}
	for _, a := range edges() {
		if got, e := limb.Parse(toBig(a).String()); e != api.OK || got != a {
			t.Error(a, got, e)
		}
	}
}

func TestParseNoDigits(t *testing.T) {
	for _, s := range []string{
		"", "00", "01", "007", "0000000000", "-1", "+1", "1a", "a1", "a", " 1", "1 ", " ", "1.0", "1e3", "0x10", "1_000",
		"/", ":", "1/", "1:", "\x00", "1\x00", "\xff", "1\xb1", "١", "1٣",
		// A wrong byte or a 0 ahead counts for more than a number that is too great.
		"0" + overText, overText + "a", "-" + overText, overText + " ", strings.Repeat("9", 1<<20) + "x", "0" + strings.Repeat("9", 1<<20), strings.Repeat("0", 1<<20),
	} {
		if got, e := limb.Parse(s); e != api.ErrDigits || got != zero {
			t.Errorf("%.90q: %v %v", s, got, e)
		}
	}
	for b := range 256 {
		if b >= '0' && b <= '9' {
			continue
		}
		for _, s := range []string{string([]byte{byte(b)}), string([]byte{'1', byte(b)}), string([]byte{'1', byte(b), '2'})} {
			if got, e := limb.Parse(s); e != api.ErrDigits || got != zero {
				t.Errorf("%q: %v %v", s, got, e)
			}
		}
	}
}

func TestParseTooGreat(t *testing.T) {
	next := big256()
	texts := []string{overText, "1" + strings.Repeat("0", 78), strings.Repeat("9", 78), strings.Repeat("9", 79), strings.Repeat("9", 1<<20), "1" + strings.Repeat("0", 1<<20), mostText + "0"}
	for range 20 {
		texts = append(texts, next.String())
		next.Add(next, big.NewInt(1))
	}
	// What is less 2^256 small again, by 78 digits and by 79.
	for k := int64(2); k <= 20; k++ {
		texts = append(texts, new(big.Int).Mul(big256(), big.NewInt(k)).String())
	}
	for _, s := range texts {
		if got, e := limb.Parse(s); e != api.ErrOver || got != zero {
			t.Errorf("%.90q: %v %v", s, got, e)
		}
	}
}

// P1.4

func TestSumsAndDifferencesUndoEachOther(t *testing.T) {
	eachPair(func(a, b api.Nat) {
		sum, over := limb.Add(a, b)
		if back, under := limb.Sub(sum, b); back != a || under != over {
			t.Fatal(a, b, sum, back)
		}
		rest, under := limb.Sub(a, b)
		if back, over := limb.Add(rest, b); back != a || over != under {
			t.Fatal(a, b, rest, back)
		}
	})
}

func TestOrderIsNotAskedFor(t *testing.T) {
	eachPair(func(a, b api.Nat) {
		sum, over := limb.Add(a, b)
		swapped, swappedOver := limb.Add(b, a)
		if sum != swapped || over != swappedOver {
			t.Fatal(a, b, sum, swapped)
		}
		high, low := limb.Mul(a, b)
		swappedHigh, swappedLow := limb.Mul(b, a)
		if high != swappedHigh || low != swappedLow {
			t.Fatal(a, b, high, low, swappedHigh, swappedLow)
		}
	})
}

func TestProductsGoOverSums(t *testing.T) {
	eachTriple(func(a, b, c api.Nat) {
		sum, over := limb.Add(b, c)
		high, low := limb.Mul(a, sum)
		if over { // the sum lacks 2^256: the product lacks that times a
			high, _ = limb.Add(high, a)
		}
		bHigh, bLow := limb.Mul(a, b)
		cHigh, cLow := limb.Mul(a, c)
		bothLow, carry := limb.Add(bLow, cLow)
		bothHigh, _ := limb.Add(bHigh, cHigh)
		if carry {
			bothHigh, _ = limb.Add(bothHigh, one)
		}
		if high != bothHigh || low != bothLow {
			t.Fatal(a, b, c, high, low, bothHigh, bothLow)
		}
	})
}

// P1.5

func TestDivOfMul(t *testing.T) {
	eachPair(func(a, b api.Nat) {
		high, low := limb.Mul(a, b)
		quotient, rest, ok := limb.Div(high, low, b)
		if b == zero {
			if ok || quotient != zero || rest != zero {
				t.Fatal(a, b, quotient, rest, ok)
			}
			return
		}
		if !ok || quotient != a || rest != zero {
			t.Fatal(a, b, quotient, rest, ok)
		}
	})
}

func TestQuotientTimesDivisorAndRest(t *testing.T) {
	eachTriple(func(high, low, by api.Nat) {
		quotient, rest, ok := limb.Div(high, low, by)
		if !ok {
			return
		}
		if limb.Cmp(rest, by) >= 0 {
			t.Fatal(high, low, by, quotient, rest)
		}
		backHigh, backLow := limb.Mul(quotient, by)
		backLow, carry := limb.Add(backLow, rest)
		if carry {
			backHigh, _ = limb.Add(backHigh, one)
		}
		if backHigh != high || backLow != low {
			t.Fatal(high, low, by, quotient, rest)
		}
	})
}

// P1.6

func TestDigitsThereAndBack(t *testing.T) {
	check := func(a api.Nat) {
		s := limb.Text(a)
		if back, e := limb.Parse(s); e != api.OK || back != a || limb.Text(back) != s {
			t.Fatal(a, s, back, e)
		}
	}
	for _, a := range edges() {
		check(a)
	}
	r := rand.New(rand.NewPCG(1, 3))
	for range 20000 {
		check(anyNat(r))
	}
}

func TestTextOfParse(t *testing.T) {
	r := rand.New(rand.NewPCG(1, 4))
	for length := 1; length <= 77; length++ {
		for range 50 {
			text := []byte{byte('1' + r.IntN(9))}
			for len(text) < length {
				text = append(text, byte('0'+r.IntN(10)))
			}
			a, e := limb.Parse(string(text))
			if e != api.OK || limb.Text(a) != string(text) {
				t.Fatal(string(text), a, e)
			}
		}
	}
	for _, s := range []string{"0", "7", "10", mostText} {
		if a, e := limb.Parse(s); e != api.OK || limb.Text(a) != s {
			t.Error(s, a, e)
		}
	}
}

func TestExamples(t *testing.T) {
	if ten, ok := limb.Ten(3); !ok || limb.Text(ten) != "1000" {
		t.Error(ten, ok)
	}
	if high, low := limb.Mul(api.Nat{0, 0, 0, top}, limb.From(2)); high != one || low != zero {
		t.Error(high, low)
	}
	if quotient, rest, ok := limb.Div(one, zero, limb.From(2)); !ok || quotient != (api.Nat{0, 0, 0, top}) || rest != zero {
		t.Error(quotient, rest, ok)
	}
	if got, e := limb.Parse("007"); e != api.ErrDigits || got != zero {
		t.Error(got, e)
	}
}
