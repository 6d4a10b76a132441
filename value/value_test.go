package value_test

import (
	"math"
	"math/rand/v2"
	"slices"
	"strings"
	"testing"

	"excise/api"
	"excise/decimal"
	"excise/dectext"
	"excise/lex"
	"excise/value"
)

// all are the values that may be and those that may not.
func all() []api.Value { return append(good(), refused()...) }

// wantSame ends the test at the first answer that is wrong: all of them would be too many to read.
func wantSame(t *testing.T, what string, got, want api.Value) {
	t.Helper()
	if got != want {
		t.Fatalf("%s: %#v, not %#v", what, got, want)
	}
	if value.Check(got) != api.OK { // P13.5
		t.Fatalf("%s: Check refuses %#v", what, got)
	}
}

// P13.1.
func TestCheck(t *testing.T) {
	for _, v := range good() {
		if e := value.Check(v); e != api.OK {
			t.Errorf("Check(%#v): %v", v, e)
		}
	}
	for _, v := range refused() {
		if e := value.Check(v); e != api.ErrArg {
			t.Errorf("Check(%#v): %v", v, e)
		}
	}
	if value.Check(api.Value{}) != api.OK || value.Check(api.Value{Err: 1}) != api.ErrArg {
		t.Error("Check of blanks")
	}
	for n := range 2 * api.MaxText {
		want := api.OK
		if n > 64 {
			want = api.ErrArg
		}
		if e := value.Check(text(strings.Repeat("x", n))); e != want {
			t.Errorf("Check of a text of %d bytes: %v", n, e)
		}
	}
	// Bytes count, not runes.
	if value.Check(text(strings.Repeat("é", 32))) != api.OK || value.Check(text(strings.Repeat("é", 33))) != api.ErrArg {
		t.Error("Check of texts of two bytes a rune")
	}
	for scale := -2; scale <= api.MaxScale+2; scale++ {
		for _, n := range []uint64{0, 1} {
			for _, neg := range []bool{false, true} {
				d := api.Dec{Neg: neg, N: api.Nat{n}, Scale: scale}
				if got := value.Check(num(d)) == api.OK; got != (decimal.Check(d) == api.OK) {
					t.Errorf("Check of the number %v: %v", d, got)
				}
			}
		}
	}
	for e := -2; e <= 8; e++ {
		if got := value.Check(bad(e)) == api.OK; got != (e >= 1 && e <= 5) {
			t.Errorf("Check of the error %d: %v", e, got)
		}
	}
}

// P13.1.
func TestBad(t *testing.T) {
	for _, e := range []int{api.EvOver, api.EvType, api.EvBlank, api.EvNone, api.EvLow} {
		wantSame(t, "Bad", value.Bad(e), api.Value{Kind: api.VErr, Err: e})
	}
	for _, e := range []int{math.MinInt, -1, 0, 6, 7, math.MaxInt} {
		wantSame(t, "Bad", value.Bad(e), api.Value{Kind: api.VErr, Err: api.EvType})
	}
}

// P13.3.
func TestNeg(t *testing.T) {
	for _, c := range []struct{ v, want string }{
		{"0", "0"}, {"0.00", "0.00"}, {"0.000000000000000000", "0.000000000000000000"},
		{"1", "-1"}, {"-1", "1"}, {"1.50", "-1.50"}, {"-1.50", "1.50"}, {least18, "-" + least18}, {most, "-" + most}, {"-" + most, most}, {mostAt1, "-" + mostAt1},
		{"blank", "!3"}, {"true", "!2"}, {"false", "!2"}, {"'a'", "!2"}, {"''", "!2"}, {"?", "!2"}, {"!1", "!1"}, {"!2", "!2"}, {"!3", "!3"}, {"!4", "!4"}, {"!5", "!5"},
	} {
		wantSame(t, "Neg of "+c.v, value.Neg(of(c.v)), of(c.want))
	}
	for _, v := range all() {
		want := api.Value{Kind: 1, Num: v.Num}
		want.Num.Neg = !v.Num.Neg && v.Num.N != api.Nat{}
		if e := askedFor(v, 1); e != 0 {
			want = bad(e)
		}
		wantSame(t, "Neg of "+value.Text(v), value.Neg(v), want)
	}
}

// P13.3.
func TestNot(t *testing.T) {
	for _, c := range []struct{ v, want string }{
		{"true", "false"}, {"false", "true"},
		{"blank", "!3"}, {"0", "!2"}, {"1", "!2"}, {"'a'", "!2"}, {"'true'", "!2"}, {"?", "!2"}, {"!1", "!1"}, {"!2", "!2"}, {"!3", "!3"}, {"!4", "!4"}, {"!5", "!5"},
	} {
		wantSame(t, "Not of "+c.v, value.Not(of(c.v)), of(c.want))
	}
	for _, v := range all() {
		want := flag(!v.Flag)
		if e := askedFor(v, 2); e != 0 {
			want = bad(e)
		}
		wantSame(t, "Not of "+value.Text(v), value.Not(v), want)
	}
}

// P13.3: what is taken is the answer, whatever it is; what is not taken is nothing.
func TestIf(t *testing.T) {
	for _, c := range []struct{ c, a, b, want string }{
		{"true", "1", "!1", "1"}, {"false", "1", "!1", "!1"}, {"true", "!4", "1", "!4"}, {"false", "!4", "1", "1"},
		{"true", "blank", "1", "blank"}, {"false", "1", "blank", "blank"}, {"true", "'a'", "1", "'a'"}, {"false", "'a'", "1.50", "1.50"}, {"true", "false", "true", "false"},
		{"true", "?", "1", "!2"}, {"true", "1", "?", "1"}, {"false", "?", "1", "1"}, {"false", "1", "?", "!2"}, {"true", "?", "?", "!2"}, {"false", "?", "?", "!2"},
		{"blank", "1", "2", "!3"}, {"1", "1", "2", "!2"}, {"0", "1", "2", "!2"}, {"'true'", "1", "2", "!2"}, {"?", "1", "2", "!2"},
		{"!1", "1", "2", "!1"}, {"!2", "1", "2", "!2"}, {"!3", "1", "2", "!3"}, {"!4", "1", "2", "!4"}, {"!5", "1", "2", "!5"},
		{"!5", "!1", "!2", "!5"}, {"blank", "!1", "!1", "!3"}, {"blank", "?", "?", "!3"}, {"!4", "?", "?", "!4"}, {"?", "!1", "!1", "!2"}, {"1", "!1", "!1", "!2"},
	} {
		wantSame(t, "If of "+c.c+" "+c.a+" "+c.b, value.If(of(c.c), of(c.a), of(c.b)), of(c.want))
	}
	others := []api.Value{of("7"), of("!4"), of("?"), of("blank")}
	for _, v := range all() {
		taken := v
		if !takes(v) {
			taken = bad(2)
		}
		for _, other := range others {
			wantSame(t, "If of true, "+value.Text(v), value.If(flag(true), v, other), taken)
			wantSame(t, "If of false, "+value.Text(v), value.If(flag(false), other, v), taken)
			if e := askedFor(v, 2); e != 0 {
				wantSame(t, "If of "+value.Text(v), value.If(v, other, other), bad(e))
			}
		}
	}
}

// P13.3.
func TestRound(t *testing.T) {
	for _, c := range []struct {
		v             string
		scale, policy int
		want          string
	}{
		{"2.5", 0, api.HalfUp, "3"}, {"2.5", 0, api.HalfEven, "2"}, {"2.5", 0, api.Down, "2"}, {"2.5", 0, api.Up, "3"}, {"2.5", 0, api.Floor, "2"},
		{"-2.5", 0, api.HalfUp, "-3"}, {"-2.5", 0, api.HalfEven, "-2"}, {"-2.5", 0, api.Down, "-2"}, {"-2.5", 0, api.Up, "-3"}, {"-2.5", 0, api.Floor, "-3"},
		{"1.25", 1, api.HalfEven, "1.2"}, {"1.25", 2, api.Up, "1.25"}, {"1.25", 4, api.Up, "1.2500"}, {"-0.4", 0, api.HalfUp, "0"}, {"-0.4", 0, api.Floor, "-1"}, {"0.00", 0, api.Up, "0"},
		{"1", api.MaxScale, api.Down, "1.000000000000000000"}, {least18, 0, api.Up, "1"}, {least18, 17, api.HalfUp, "0.00000000000000000"},
		{most, 0, api.Up, most}, {most, 1, api.Up, "!1"}, {"-" + most, 18, api.Down, "!1"}, {mostAt1, 0, api.HalfUp, "11579208923731619542357098500868790785326998466564056403945758400791312963994"}, {mostAt1, 2, api.HalfUp, "!1"},
		{"1", -1, api.Up, "!2"}, {"1", 19, api.Up, "!2"}, {"1", math.MinInt, api.Up, "!2"}, {"1", math.MaxInt, api.Up, "!2"},
		{"1", 0, 0, "!2"}, {"1", 0, 6, "!2"}, {"1", 0, -1, "!2"}, {"1", -1, 0, "!2"}, {most, 1, 0, "!2"}, {most, 19, api.Up, "!2"},
		{"blank", 0, api.Up, "!3"}, {"blank", -1, 0, "!3"}, {"true", 0, api.Up, "!2"}, {"'1'", 0, api.Up, "!2"}, {"?", 0, api.Up, "!2"},
		{"!1", 0, api.Up, "!1"}, {"!4", -1, 0, "!4"}, {"!5", 19, 6, "!5"},
	} {
		wantSame(t, "Round of "+c.v, value.Round(of(c.v), c.scale, c.policy), of(c.want))
	}
	for _, v := range all() {
		everyScaleAndPolicy(func(scale, policy int) {
			wantSame(t, "Round of "+value.Text(v), value.Round(v, scale, policy), rounded(v, scale, policy))
		})
	}
}

// everyScaleAndPolicy hands on all scales and policies that there are, and some that there are not.
func everyScaleAndPolicy(visit func(scale, policy int)) {
	scales := slices.Clone(noScales)
	for n := range api.MaxScale + 1 {
		scales = append(scales, n)
	}
	for _, scale := range scales {
		for _, policy := range slices.Concat(policies, noPolicies) {
			visit(scale, policy)
		}
	}
}

// rounded is what the chapter says of Round.
func rounded(v api.Value, scale, policy int) api.Value {
	if e := askedFor(v, 1); e != 0 {
		return bad(e)
	}
	d, e := decimal.Rescale(v.Num, scale, policy)
	if e == api.ErrOver {
		return bad(1)
	}
	if e != api.OK {
		return bad(2)
	}
	return num(d)
}

// P13.3.
func TestBlank(t *testing.T) {
	for _, c := range []struct{ v, want string }{
		{"blank", "true"}, {"0", "false"}, {"1.50", "false"}, {"true", "false"}, {"false", "false"}, {"''", "false"}, {"'blank'", "false"},
		{"?", "!2"}, {"!1", "!1"}, {"!2", "!2"}, {"!3", "!3"}, {"!4", "!4"}, {"!5", "!5"},
	} {
		wantSame(t, "Blank of "+c.v, value.Blank(of(c.v)), of(c.want))
	}
	for _, v := range all() {
		want := flag(v.Kind == 0)
		if !takes(v) {
			want = bad(2)
		} else if v.Kind == 4 {
			want = v
		}
		wantSame(t, "Blank of "+value.Text(v), value.Blank(v), want)
	}
}

// P13.3.
func TestFit(t *testing.T) {
	for _, c := range []struct {
		v           string
		kind, scale int
		policy      int
		want        string
	}{
		{"0.5", api.VNum, 0, api.HalfUp, "1"}, {"0.5", api.VNum, 0, api.HalfEven, "0"}, {"1.505", api.VNum, 2, api.Down, "1.50"}, {"1.5", api.VNum, 2, api.Down, "1.50"}, {"-1.505", api.VNum, 2, api.Up, "-1.51"}, {"-1.505", api.VNum, 2, api.Floor, "-1.51"},
		{"1.5", api.VNum, -1, api.Up, "!2"}, {"1.5", api.VNum, 19, api.Up, "!2"}, {"1.5", api.VNum, 0, 0, "!2"}, {"1.5", api.VNum, 0, 6, "!2"}, {most, api.VNum, 1, api.Up, "!1"}, {most, api.VNum, 0, api.Up, most},
		{"1", api.VFlag, 0, api.Up, "!2"}, {"1", api.VText, 0, api.Up, "!2"}, {"1", api.VBlank, 0, api.Up, "!2"}, {"1", api.VErr, 0, api.Up, "!2"}, {"1", 9, 0, api.Up, "!2"},
		{"true", api.VFlag, 0, api.Up, "true"}, {"false", api.VFlag, 0, 0, "false"}, {"true", api.VFlag, -1, 99, "true"}, {"true", api.VNum, 0, api.Up, "!2"}, {"true", api.VText, 0, api.Up, "!2"}, {"false", api.VBlank, 0, api.Up, "!2"},
		{"'a'", api.VText, 0, api.Up, "'a'"}, {"''", api.VText, 0, 0, "''"}, {"'a'", api.VText, 19, -1, "'a'"}, {"'a'", api.VNum, 0, api.Up, "!2"}, {"'a'", api.VFlag, 0, api.Up, "!2"}, {"''", api.VBlank, 0, api.Up, "!2"}, {"'a'", api.VErr, 0, api.Up, "!2"},
		{"blank", api.VNum, 0, api.Up, "blank"}, {"blank", api.VFlag, 0, api.Up, "blank"}, {"blank", api.VText, 0, api.Up, "blank"}, {"blank", 9, -1, 99, "blank"}, {"blank", api.VBlank, 0, 0, "blank"},
		{"!1", api.VNum, 0, api.Up, "!1"}, {"!3", api.VText, 0, api.Up, "!3"}, {"!4", 9, -1, 99, "!4"}, {"!5", api.VErr, 0, 0, "!5"}, {"!2", api.VBlank, 0, 0, "!2"},
		{"?", api.VNum, 0, api.Up, "!2"}, {"?", 9, 0, api.Up, "!2"}, {"?", api.VBlank, 0, api.Up, "!2"},
	} {
		wantSame(t, "Fit of "+c.v, value.Fit(of(c.v), api.Type{Kind: c.kind, Scale: c.scale}, c.policy), of(c.want))
	}
	for _, v := range all() {
		for _, kind := range append([]int{0, 1, 2, 3, 4}, noKinds...) {
			everyScaleAndPolicy(func(scale, policy int) {
				wantSame(t, "Fit of "+value.Text(v), value.Fit(v, api.Type{Kind: kind, Scale: scale}, policy), fitted(v, kind, scale, policy))
			})
		}
	}
}

// fitted is what the chapter says of Fit.
func fitted(v api.Value, kind, scale, policy int) api.Value {
	switch {
	case !takes(v):
		return bad(2)
	case v.Kind == 4, v.Kind == 0:
		return v
	case v.Kind != kind:
		return bad(2)
	case kind == 1:
		return rounded(v, scale, policy)
	}
	return v
}

// P13.4.
func TestText(t *testing.T) {
	for _, c := range []struct {
		v    api.Value
		want string
	}{
		{api.Value{}, "blank"}, {flag(true), "true"}, {flag(false), "false"},
		{of("0"), "0"}, {of("0.00"), "0.00"}, {of("-12.50"), "-12.50"}, {of("1.000000000000000000"), "1.000000000000000000"}, {of("-" + most), "-" + most},
		{text(""), `""`}, {text("a"), `"a"`}, {text("blank"), `"blank"`}, {text("true"), `"true"`}, {text(`5" x 7`), `"5\" x 7"`}, {text(`\`), `"\\"`}, {text("\x00\xff\n"), `"\x00\xff\x0a"`}, {text("é"), `"\xc3\xa9"`},
		{text(strings.Repeat("\"", 64)), `"` + strings.Repeat(`\"`, 64) + `"`}, {text(strings.Repeat("\"", 65)), "?"},
		{bad(1), "!1"}, {bad(2), "!2"}, {bad(3), "!3"}, {bad(4), "!4"}, {bad(5), "!5"}, {bad(0), "?"}, {bad(6), "?"}, {bad(-1), "?"},
		{api.Value{Flag: true}, "?"}, {api.Value{Kind: 9}, "?"}, {api.Value{Kind: -1}, "?"}, {api.Value{Kind: api.VFlag, Text: "a"}, "?"}, {num(api.Dec{Neg: true}), "?"}, {num(api.Dec{Scale: 19}), "?"},
	} {
		if got := value.Text(c.v); got != c.want {
			t.Errorf("Text(%#v): %s, not %s", c.v, got, c.want)
		}
	}
	for _, v := range refused() {
		if got := value.Text(v); got != "?" {
			t.Errorf("Text(%#v): %s", v, got)
		}
	}
}

// P13.4: the layers below read back what Text has written of numbers and texts, and unlike values have unlike texts.
func TestTextThereAndBack(t *testing.T) {
	owners := map[string]api.Value{}
	check := func(v api.Value) {
		s := value.Text(v)
		if !takes(v) {
			if s != "?" {
				t.Fatalf("Text(%#v): %s", v, s)
			}
			return
		}
		if owner, ok := owners[s]; ok && owner != v {
			t.Fatalf("Text of %#v and of %#v: %s", owner, v, s)
		}
		owners[s] = v
		switch v.Kind {
		case api.VNum:
			if d, e := dectext.Parse(s); d != v.Num || e != api.OK {
				t.Fatalf("Text(%#v): %s", v, s)
			}
		case api.VText:
			if back, ok := lex.Unquote(s); !ok || back != v.Text {
				t.Fatalf("Text(%#v): %s", v, s)
			}
		}
	}
	for _, v := range all() {
		check(v)
	}
	r := rand.New(rand.NewPCG(13, 4))
	for range 20000 {
		check(anyValue(r))
	}
}

// P13.5 and P13.6 of what asks for one operand, over made-up values.
func TestMadeUpOperands(t *testing.T) {
	r := rand.New(rand.NewPCG(13, 5))
	for range 20000 {
		v, a, b := anyValue(r), anyValue(r), anyValue(r)
		scale, policy := r.IntN(22)-2, r.IntN(8)-1
		kind := r.IntN(7) - 1
		wantSame(t, "Round of "+value.Text(v), value.Round(v, scale, policy), rounded(v, scale, policy))
		wantSame(t, "Fit of "+value.Text(v), value.Fit(v, api.Type{Kind: kind, Scale: scale}, policy), fitted(v, kind, scale, policy))
		if (value.Check(v) == api.OK) != takes(v) {
			t.Fatalf("Check(%#v): %v", v, value.Check(v))
		}
		answers := []api.Value{value.Neg(v), value.Not(v), value.Round(v, scale, policy), value.Blank(v), value.Fit(v, api.Type{Kind: kind, Scale: scale}, policy), value.If(v, a, b)}
		for i, got := range answers {
			if value.Check(got) != api.OK {
				t.Fatalf("answer %d of %#v: %#v", i, v, got)
			}
			if takes(v) && v.Kind == api.VErr && got != v || !takes(v) && got != bad(api.EvType) {
				t.Fatalf("answer %d of %#v: %#v", i, v, got)
			}
		}
		if got := value.Bad(v.Err); value.Check(got) != api.OK {
			t.Fatalf("Bad(%d): %#v", v.Err, got)
		}
	}
}
