package dectext_test

import (
	"math"
	"math/big"
	"math/rand/v2"
	"regexp"
	"strings"
	"testing"

	"excise/api"
	"excise/decimal"
	"excise/dectext"
)

const (
	full = 1<<64 - 1

	mostText = "115792089237316195423570985008687907853269984665640564039457584007913129639935" // 2^256 - 1
	overText = "115792089237316195423570985008687907853269984665640564039457584007913129639936" // 2^256
)

var (
	most    = api.Nat{full, full, full, full}
	noScale = []int{math.MinInt, -2, -1, 19, 20, math.MaxInt}
	plain   = regexp.MustCompile(`\A-?(?:0|[1-9][0-9]*)(?:\.[0-9]+)?\z`)
)

// bad are numbers that may not be.
func bad() []api.Dec {
	list := []api.Dec{{Neg: true}, {Neg: true, Scale: 2}, {Neg: true, Scale: 18}}
	for _, scale := range noScale {
		list = append(list, api.Dec{Scale: scale}, api.Dec{N: api.Nat{1}, Scale: scale}, api.Dec{Neg: true, N: most, Scale: scale}, api.Dec{Neg: true, Scale: scale})
	}
	return list
}

func bigTen(n int) *big.Int { return new(big.Int).Exp(big.NewInt(10), big.NewInt(int64(n)), nil) }

func toBig(a api.Nat) *big.Int {
	sum := new(big.Int)
	for i := len(a) - 1; i >= 0; i-- {
		sum.Lsh(sum, 64)
		sum.Add(sum, new(big.Int).SetUint64(a[i]))
	}
	return sum
}

// toNat is b, which must be from 0 to 2^256 - 1.
func toNat(b *big.Int) api.Nat {
	if b.Sign() < 0 || b.BitLen() > 256 {
		panic("no number of 256 bits")
	}
	var out api.Nat
	left := new(big.Int).Set(b)
	mask := new(big.Int).SetUint64(full)
	for i := range out {
		out[i] = new(big.Int).And(left, mask).Uint64()
		left.Rsh(left, 64)
	}
	return out
}

// number is what a Dec says.
func number(a api.Dec) *big.Rat {
	n := toBig(a.N)
	if a.Neg {
		n.Neg(n)
	}
	return new(big.Rat).SetFrac(n, bigTen(a.Scale))
}

// edges are numbers about powers of two and of ten, at scales from 0 to 18, above and below 0.
func edges() []api.Dec {
	var sizes []*big.Int
	about := func(n *big.Int) {
		for d := int64(-1); d <= 1; d++ {
			sizes = append(sizes, new(big.Int).Add(n, big.NewInt(d)))
		}
	}
	about(big.NewInt(1))
	about(big.NewInt(1250))
	about(new(big.Int).Lsh(big.NewInt(1), 64))
	about(new(big.Int).Lsh(big.NewInt(1), 128))
	about(new(big.Int).Sub(toBig(most), big.NewInt(1)))
	for n := 1; n <= 77; n++ {
		about(bigTen(n))
	}
	for n := 1; n <= 18; n++ {
		about(new(big.Int).Div(toBig(most), bigTen(n)))
	}
	var list []api.Dec
	for _, n := range sizes {
		for scale := range api.MaxScale + 1 {
			list = append(list, api.Dec{N: toNat(n), Scale: scale})
			if n.Sign() != 0 {
				list = append(list, api.Dec{Neg: true, N: toNat(n), Scale: scale})
			}
		}
	}
	return list
}

// anyDec is a number with as many bits and as many 0s at its end as it comes.
func anyDec(r *rand.Rand) api.Dec {
	n := toBig(api.Nat{r.Uint64(), r.Uint64(), r.Uint64(), r.Uint64()})
	n.Rsh(n, uint(r.IntN(257)))
	cut := bigTen(r.IntN(24))
	n.Div(n, cut).Mul(n, cut)
	return api.Dec{Neg: n.Sign() > 0 && r.IntN(2) == 0, N: toNat(n), Scale: r.IntN(19)}
}

func numbers() []api.Dec {
	list := edges()
	r := rand.New(rand.NewPCG(3, 1))
	for range 5000 {
		list = append(list, anyDec(r))
	}
	return list
}

// isText is what the chapter calls a decimal text.
func isText(s string) bool {
	return plain.MatchString(s) && (s[0] != '-' || strings.ContainsAny(s, "123456789"))
}

// texts hands on all texts of at most n of the bytes.
func texts(bytes string, n int, visit func(s string)) {
	visit("")
	if n == 0 {
		return
	}
	for i := range len(bytes) {
		texts(bytes, n-1, func(s string) {
			visit(bytes[i:i+1] + s)
		})
	}
}

// parsed is what the chapter says of Parse, reckoned with numbers of any size.
func parsed(s string) (api.Dec, api.Errno) {
	if !isText(s) {
		return api.Dec{}, api.ErrDec
	}
	scale := 0
	if point := strings.IndexByte(s, '.'); point >= 0 {
		scale = len(s) - point - 1
	}
	if scale > 18 {
		return api.Dec{}, api.ErrPoint
	}
	n, ok := new(big.Int).SetString(strings.ReplaceAll(s, ".", ""), 10)
	if !ok {
		panic("no digits")
	}
	size := new(big.Int).Abs(n)
	if size.BitLen() > 256 {
		return api.Dec{}, api.ErrOver
	}
	return api.Dec{Neg: n.Sign() < 0, N: toNat(size), Scale: scale}, api.OK
}

// parsedAt is what the chapter says of ParseAt.
func parsedAt(s string, scale int) (api.Dec, api.Errno) {
	if scale < 0 || scale > 18 {
		return api.Dec{}, api.ErrArg
	}
	d, e := parsed(s)
	if e != api.OK {
		return api.Dec{}, e
	}
	if d.Scale > scale {
		return api.Dec{}, api.ErrPoint
	}
	n := new(big.Int).Mul(toBig(d.N), bigTen(scale-d.Scale))
	if n.BitLen() > 256 {
		return api.Dec{}, api.ErrOver
	}
	return api.Dec{Neg: d.Neg, N: toNat(n), Scale: scale}, api.OK
}

// checkParse holds Parse, ParseAt at each scale and Prefix against what the chapter says.
func checkParse(t *testing.T, s string) {
	t.Helper()
	want, wantErr := parsed(s)
	if got, e := dectext.Parse(s); got != want || e != wantErr {
		t.Errorf("Parse(%q): %v %v, not %v %v", s, got, e, want, wantErr)
	}
	for scale := -1; scale <= 19; scale++ {
		want, wantErr := parsedAt(s, scale)
		if got, e := dectext.ParseAt(s, scale); got != want || e != wantErr {
			t.Errorf("ParseAt(%q, %d): %v %v, not %v %v", s, scale, got, e, want, wantErr)
		}
	}
	checkPrefix(t, s)
}

func checkPrefix(t *testing.T, s string) {
	t.Helper()
	want := 0
	for n := 1; n <= len(s); n++ {
		if isText(s[:n]) {
			want = n
		}
	}
	if got := dectext.Prefix(s); got != want {
		t.Errorf("Prefix(%q): %d, not %d", s, got, want)
	}
}

// P3.1.
func TestText(t *testing.T) {
	zeros18, zeros17 := strings.Repeat("0", 18), strings.Repeat("0", 17)
	for _, c := range []struct {
		d           api.Dec
		text, short string
	}{
		{api.Dec{Neg: true, N: api.Nat{1250}, Scale: 2}, "-12.50", "-12.5"},
		{api.Dec{N: api.Nat{5}, Scale: 3}, "0.005", "0.005"},
		{api.Dec{}, "0", "0"},
		{api.Dec{Scale: 1}, "0.0", "0"},
		{api.Dec{Scale: 18}, "0." + zeros18, "0"},
		{api.Dec{N: api.Nat{7}}, "7", "7"},
		{api.Dec{Neg: true, N: api.Nat{7}}, "-7", "-7"},
		{api.Dec{N: api.Nat{100}}, "100", "100"},
		{api.Dec{N: api.Nat{100}, Scale: 1}, "10.0", "10"},
		{api.Dec{N: api.Nat{100}, Scale: 2}, "1.00", "1"},
		{api.Dec{N: api.Nat{100}, Scale: 3}, "0.100", "0.1"},
		{api.Dec{N: api.Nat{100}, Scale: 4}, "0.0100", "0.01"},
		{api.Dec{Neg: true, N: api.Nat{1}, Scale: 18}, "-0." + zeros17 + "1", "-0." + zeros17 + "1"},
		{api.Dec{Neg: true, N: api.Nat{10}, Scale: 18}, "-0." + zeros17[1:] + "10", "-0." + zeros17[1:] + "1"},
		{api.Dec{N: api.Nat{1000000000000000000}, Scale: 18}, "1." + zeros18, "1"},
		{api.Dec{N: api.Nat{100500}, Scale: 4}, "10.0500", "10.05"},
		{api.Dec{N: most}, mostText, mostText},
		{api.Dec{Neg: true, N: most}, "-" + mostText, "-" + mostText},
		{api.Dec{N: most, Scale: 18}, mostText[:60] + "." + mostText[60:], mostText[:60] + "." + mostText[60:]},
	} {
		if got := dectext.Text(c.d); got != c.text {
			t.Errorf("Text(%v): %q, not %q", c.d, got, c.text)
		}
		if got := dectext.Short(c.d); got != c.short {
			t.Errorf("Short(%v): %q, not %q", c.d, got, c.short)
		}
	}
}

// P3.1.
func TestTextOfWhatMayNotBe(t *testing.T) {
	for _, d := range bad() {
		if got := dectext.Text(d); got != "?" {
			t.Errorf("Text(%v): %q", d, got)
		}
		if got := dectext.Short(d); got != "?" {
			t.Errorf("Short(%v): %q", d, got)
		}
	}
}

// P3.1.
func TestTextAgainstBig(t *testing.T) {
	for _, d := range numbers() {
		want := number(d).FloatString(d.Scale)
		if got := dectext.Text(d); got != want {
			t.Errorf("Text(%v): %q, not %q", d, got, want)
		}
		if d.Scale > 0 {
			want = strings.TrimSuffix(strings.TrimRight(want, "0"), ".")
		}
		if got := dectext.Short(d); got != want {
			t.Errorf("Short(%v): %q, not %q", d, got, want)
		}
	}
}

// P3.2.
func TestParse(t *testing.T) {
	for _, c := range []struct {
		s    string
		want api.Dec
	}{
		{"0", api.Dec{}},
		{"7", api.Dec{N: api.Nat{7}}},
		{"-7", api.Dec{Neg: true, N: api.Nat{7}}},
		{"100", api.Dec{N: api.Nat{100}}},
		{"0.0", api.Dec{Scale: 1}},
		{"0.005", api.Dec{N: api.Nat{5}, Scale: 3}},
		{"-12.50", api.Dec{Neg: true, N: api.Nat{1250}, Scale: 2}},
		{"-0.1", api.Dec{Neg: true, N: api.Nat{1}, Scale: 1}},
		{"-0.10", api.Dec{Neg: true, N: api.Nat{10}, Scale: 2}},
		{"10.050", api.Dec{N: api.Nat{10050}, Scale: 3}},
		{"0." + strings.Repeat("0", 18), api.Dec{Scale: 18}},
		{"0." + strings.Repeat("0", 17) + "1", api.Dec{N: api.Nat{1}, Scale: 18}},
		{"9." + strings.Repeat("9", 18), api.Dec{N: api.Nat{9999999999999999999}, Scale: 18}},
		{mostText, api.Dec{N: most}},
		{"-" + mostText, api.Dec{Neg: true, N: most}},
		{mostText[:77] + "." + mostText[77:], api.Dec{N: most, Scale: 1}},
		{"-" + mostText[:60] + "." + mostText[60:], api.Dec{Neg: true, N: most, Scale: 18}},
	} {
		if got, e := dectext.Parse(c.s); got != c.want || e != api.OK {
			t.Errorf("Parse(%q): %v %v", c.s, got, e)
		}
		checkParse(t, c.s)
	}
}

// P3.2: each error, and which comes first where two apply.
func TestParseErrors(t *testing.T) {
	long, zeros := strings.Repeat("9", 1<<20), strings.Repeat("0", 19)
	for _, c := range []struct {
		s    string
		want api.Errno
	}{
		{"", api.ErrDec}, {"-", api.ErrDec}, {"--1", api.ErrDec}, {"+1", api.ErrDec}, {"1-", api.ErrDec}, {"1-2", api.ErrDec},
		{".", api.ErrDec}, {"-.", api.ErrDec}, {".5", api.ErrDec}, {"-.5", api.ErrDec}, {"1.", api.ErrDec}, {"-1.", api.ErrDec}, {"1.-2", api.ErrDec},
		{"1..2", api.ErrDec}, {"1.2.", api.ErrDec}, {"1.2.3", api.ErrDec}, {"0.", api.ErrDec},
		{"00", api.ErrDec}, {"007", api.ErrDec}, {"-007", api.ErrDec}, {"00.5", api.ErrDec}, {"-00.5", api.ErrDec}, {"01", api.ErrDec},
		{"-0", api.ErrDec}, {"-0.0", api.ErrDec}, {"-0.00", api.ErrDec}, {"-00", api.ErrDec}, {"-0.", api.ErrDec},
		{" 1", api.ErrDec}, {"1 ", api.ErrDec}, {"1e5", api.ErrDec}, {"1,5", api.ErrDec}, {"1_000", api.ErrDec}, {"0x1", api.ErrDec}, {"?", api.ErrDec}, {"1\n", api.ErrDec}, {"−1", api.ErrDec}, {"١", api.ErrDec},
		{"0." + zeros, api.ErrPoint}, {"0." + zeros[:18] + "1", api.ErrPoint}, {"-1." + zeros, api.ErrPoint}, {"1." + zeros + zeros, api.ErrPoint}, {"1." + long, api.ErrPoint},
		{overText, api.ErrOver}, {"-" + overText, api.ErrOver}, {overText[:60] + "." + overText[60:], api.ErrOver}, {mostText + ".0", api.ErrOver}, {long, api.ErrOver}, {"1" + strings.Repeat("0", 78), api.ErrOver},
		// A text that is none counts for more than its digits behind the point, and these for more than its size.
		{overText + "x", api.ErrDec}, {"0" + overText, api.ErrDec}, {long + ".", api.ErrDec}, {"-0." + zeros, api.ErrDec}, {"01." + zeros, api.ErrDec}, {"1." + zeros + "x", api.ErrDec}, {"0" + overText + "." + zeros, api.ErrDec},
		{overText + "." + zeros, api.ErrPoint}, {mostText + "." + zeros, api.ErrPoint}, {long + "." + zeros, api.ErrPoint},
		{overText + "." + zeros[:18], api.ErrOver},
	} {
		if got, e := dectext.Parse(c.s); got != (api.Dec{}) || e != c.want {
			t.Errorf("Parse(%.90q): %v %v, not %v", c.s, got, e, c.want)
		}
	}
}

// P3.2, P3.3: a byte that a decimal text has not, wherever it stands.
func TestOtherBytes(t *testing.T) {
	for b := range 256 {
		if b >= '0' && b <= '9' || b == '-' || b == '.' {
			continue
		}
		other := string([]byte{byte(b)})
		for _, c := range []struct {
			s      string
			prefix int
		}{
			{other, 0}, {other + "1", 0}, {"-" + other, 0}, {"-" + other + "1", 0}, {"1" + other, 1}, {"1" + other + "2", 1}, {"0" + other, 1}, {"-0" + other, 0},
			{"1." + other, 1}, {"1." + other + "5", 1}, {"1.5" + other, 3}, {"1.5" + other + "5", 3}, {"-1.5" + other, 4}, {"-0.0" + other + "1", 0}, {"12" + other + "5", 2},
		} {
			if got, e := dectext.Parse(c.s); got != (api.Dec{}) || e != api.ErrDec {
				t.Errorf("Parse(%q): %v %v", c.s, got, e)
			}
			if got, e := dectext.ParseAt(c.s, 2); got != (api.Dec{}) || e != api.ErrDec {
				t.Errorf("ParseAt(%q, 2): %v %v", c.s, got, e)
			}
			if got := dectext.Prefix(c.s); got != c.prefix {
				t.Errorf("Prefix(%q): %d, not %d", c.s, got, c.prefix)
			}
		}
	}
}

// P3.2.
func TestParseAt(t *testing.T) {
	for _, c := range []struct {
		s     string
		scale int
		want  api.Dec
	}{
		{"3", 2, api.Dec{N: api.Nat{300}, Scale: 2}},
		{"3", 0, api.Dec{N: api.Nat{3}}},
		{"-12.5", 2, api.Dec{Neg: true, N: api.Nat{1250}, Scale: 2}},
		{"12.50", 2, api.Dec{N: api.Nat{1250}, Scale: 2}},
		{"0", 18, api.Dec{Scale: 18}},
		{"0.00", 5, api.Dec{Scale: 5}},
		{"-1", 18, api.Dec{Neg: true, N: api.Nat{1000000000000000000}, Scale: 18}},
		{mostText, 0, api.Dec{N: most}},
		{"-" + mostText[:60] + "." + mostText[60:], 18, api.Dec{Neg: true, N: most, Scale: 18}},
		// The greatest whole number that has room with ten times as many.
		{mostText[:77], 1, api.Dec{N: toNat(new(big.Int).Sub(toBig(most), big.NewInt(5))), Scale: 1}},
	} {
		if got, e := dectext.ParseAt(c.s, c.scale); got != c.want || e != api.OK {
			t.Errorf("ParseAt(%q, %d): %v %v", c.s, c.scale, got, e)
		}
	}
}

// P3.2: each error, and which comes first where two apply.
func TestParseAtErrors(t *testing.T) {
	zeros := strings.Repeat("0", 19)
	next := new(big.Int).Add(new(big.Int).Div(toBig(most), bigTen(1)), big.NewInt(1)).String()
	for _, c := range []struct {
		s     string
		scale int
		want  api.Errno
	}{
		{"1.234", 2, api.ErrPoint}, {"1.50", 1, api.ErrPoint}, {"1.0", 0, api.ErrPoint}, {"0.0", 0, api.ErrPoint}, {"0." + zeros[:18], 17, api.ErrPoint},
		{mostText, 1, api.ErrOver}, {"-" + mostText, 18, api.ErrOver}, {next, 1, api.ErrOver}, {mostText[:77] + "." + mostText[77:], 2, api.ErrOver}, {mostText[:61], 18, api.ErrOver},
		{"", 2, api.ErrDec}, {"-0.0", 2, api.ErrDec}, {"1.", 2, api.ErrDec}, {"007", 2, api.ErrDec}, {"0." + zeros, 18, api.ErrPoint}, {overText, 0, api.ErrOver},
		// What Parse says counts for more than the scale that is asked for: that the number is too great too.
		{overText[:60] + "." + overText[60:], 2, api.ErrOver}, {overText + ".0", 0, api.ErrOver}, {mostText[:77] + "." + mostText[77:], 0, api.ErrPoint}, {overText + "." + zeros, 18, api.ErrPoint}, {"01.5", 0, api.ErrDec},
	} {
		if got, e := dectext.ParseAt(c.s, c.scale); got != (api.Dec{}) || e != c.want {
			t.Errorf("ParseAt(%q, %d): %v %v, not %v", c.s, c.scale, got, e, c.want)
		}
	}
	// A scale that may not be counts for more than all that the text has.
	for _, scale := range noScale {
		for _, s := range []string{"1", "0", "", "x", "-0", "0." + zeros, overText, overText + "." + zeros, mostText} {
			if got, e := dectext.ParseAt(s, scale); got != (api.Dec{}) || e != api.ErrArg {
				t.Errorf("ParseAt(%q, %d): %v %v", s, scale, got, e)
			}
		}
	}
}

// P3.3.
func TestPrefix(t *testing.T) {
	long := strings.Repeat("9", 1<<20)
	for _, c := range []struct {
		s    string
		want int
	}{
		{"1.5.2", 3}, {"1.x", 1}, {"-0", 0}, {"00", 1},
		{"", 0}, {"-", 0}, {".", 0}, {"-.5", 0}, {".5", 0}, {"--1", 0}, {"x1", 0}, {"+1", 0}, {" 1", 0},
		{"0", 1}, {"0.", 1}, {"0.0", 3}, {"0..0", 1}, {"007", 1}, {"1-2", 1}, {"12.50abc", 5}, {"-7.", 2}, {"-7.0", 4}, {"-10", 3}, {"-10.x", 3},
		{"-0.", 0}, {"-0.0", 0}, {"-0.0x", 0}, {"-0.00.1", 0}, {"-01", 0}, {"-00.1", 0}, {"-0.1", 4}, {"-0.10", 5}, {"-0.010x", 6}, {"-0.001.5", 6}, {"-0x", 0},
		// A decimal text has no bound: neither MaxScale nor 2^256.
		{overText, 78}, {"0." + strings.Repeat("0", 19), 21}, {"-0." + strings.Repeat("0", 40) + "1-", 44}, {long + "." + long + ".", 2<<20 + 1}, {"-0." + strings.Repeat("0", 1<<20), 0},
	} {
		if got := dectext.Prefix(c.s); got != c.want {
			t.Errorf("Prefix(%.90q): %d, not %d", c.s, got, c.want)
		}
	}
}

// P3.2, P3.3: all short texts.
func TestAllShortTexts(t *testing.T) {
	done := 0
	texts("-.01x", 5, func(s string) {
		done++
		checkParse(t, s)
	})
	texts("-.09", 8, func(s string) {
		done++
		checkPrefix(t, s)
	})
	if done < 50000 {
		t.Error("too few texts:", done)
	}
}

// P3.2: texts about the greatest numbers, with the point wherever it may stand.
func TestParseAtTheTop(t *testing.T) {
	for d := int64(-12); d <= 12; d++ {
		digits := new(big.Int).Add(toBig(most), big.NewInt(d)).String()
		for _, sign := range []string{"", "-"} {
			checkParse(t, sign+digits)
			for behind := 1; behind <= 20; behind++ {
				checkParse(t, sign+digits[:len(digits)-behind]+"."+digits[len(digits)-behind:])
			}
		}
	}
	for more := range 19 {
		last := new(big.Int).Div(toBig(most), bigTen(more))
		for d := int64(-1); d <= 1; d++ {
			checkParse(t, new(big.Int).Add(last, big.NewInt(d)).String())
		}
	}
}

// P3.4.
func TestThereAndBack(t *testing.T) {
	for _, d := range numbers() {
		text := dectext.Text(d)
		if got, e := dectext.Parse(text); got != d || e != api.OK {
			t.Errorf("Parse(%q): %v %v, not %v", text, got, e, d)
		}
		if got, e := dectext.ParseAt(text, d.Scale); got != d || e != api.OK {
			t.Errorf("ParseAt(%q): %v %v, not %v", text, got, e, d)
		}
		short := dectext.Short(d)
		if got, e := dectext.ParseAt(short, d.Scale); got != d || e != api.OK {
			t.Errorf("ParseAt(%q): %v %v, not %v", short, got, e, d)
		}
		if got := dectext.Prefix(text + "."); got != len(text) {
			t.Errorf("Prefix(%q): %d", text+".", got)
		}
	}
	read := 0
	back := func(s string) {
		d, e := dectext.Parse(s)
		if e != api.OK {
			return
		}
		read++
		if got := dectext.Text(d); got != s {
			t.Errorf("Text(%v): %q, not %q", d, got, s)
		}
	}
	texts("-.01", 7, back)
	texts("-.05x", 5, back)
	if read < 500 {
		t.Error("too few texts were read:", read)
	}
}

// P3.5.
func TestUnlikeNumbersUnlikeTexts(t *testing.T) {
	seen := map[string]api.Dec{}
	for _, d := range numbers() {
		text := dectext.Text(d)
		if other, ok := seen[text]; ok && other != d {
			t.Errorf("%q: %v and %v", text, d, other)
		}
		seen[text] = d
	}
}

// P3.5: the same number at whatever scale has the same Short, and another number another one.
func TestShortIsTheNumber(t *testing.T) {
	for _, d := range numbers() {
		for scale := range api.MaxScale + 1 {
			other, e := decimal.Rescale(d, scale, api.Down)
			if e != api.OK {
				continue
			}
			same := decimal.Cmp(d, other) == 0
			if (dectext.Short(d) == dectext.Short(other)) != same {
				t.Errorf("%v and %v: %q, %q, the same: %v", d, other, dectext.Short(d), dectext.Short(other), same)
			}
		}
	}
}
