package bracket_test

import (
	"math"
	"slices"
	"strconv"
	"strings"
	"testing"

	"excise/api"
	"excise/bracket"
	"excise/decimal"
)

const example = "0 0 0.1; 100 10 0.2"

// noDecs are numbers that may not be.
func noDecs() []api.Dec {
	l := []api.Dec{{Neg: true}, {Neg: true, Scale: 2}, {Neg: true, Scale: 18}}
	for _, scale := range []int{math.MinInt, -1, 19, math.MaxInt} {
		l = append(l, api.Dec{Scale: scale}, api.Dec{N: api.Nat{5}, Scale: scale}, api.Dec{Neg: true, N: api.Nat{5}, Scale: scale})
	}
	return l
}

// The chapter's own examples.
func TestExamples(t *testing.T) {
	x := table(example)
	for _, c := range []struct {
		n    string
		step int
		want string
	}{{"50", 0, "5.0"}, {"100", 1, "10.0"}, {"150.5", 1, "20.10"}} {
		wantNumber(t, x, c.n, c.step, c.want)
	}
	wantRefused(t, x, dec("-1"), api.ErrLow)
	wantShapes(t, example, true, true, api.OK)
}

func wantNumber(t *testing.T, x api.Table, n string, step int, want string) {
	t.Helper()
	if got, e := bracket.Step(x, dec(n)); got != step || e != api.OK {
		t.Errorf("Step of %s in %v: %d %v, not %d", n, x, got, e, step)
	}
	if got, e := bracket.At(x, dec(n)); got != dec(want) || e != api.OK {
		t.Errorf("At of %s in %v: %v %v, not %s", n, x, got, e, want)
	}
}

func wantRefused(t *testing.T, x api.Table, n api.Dec, want api.Errno) {
	t.Helper()
	if got, e := bracket.Step(x, n); got != 0 || e != want {
		t.Errorf("Step of %v in %v: %d %v, not %v", n, x, got, e, want)
	}
	if got, e := bracket.At(x, n); got != (api.Dec{}) || e != want {
		t.Errorf("At of %v in %v: %v %v, not %v", n, x, got, e, want)
	}
}

func wantShapes(t *testing.T, s string, rising, joined bool, want api.Errno) {
	t.Helper()
	if got, e := bracket.Rising(table(s)); got != rising || e != want {
		t.Errorf("Rising of %s: %v %v", s, got, e)
	}
	if got, e := bracket.Joined(table(s)); got != joined || e != want {
		t.Errorf("Joined of %s: %v %v", s, got, e)
	}
	checkTable(t, table(s))
}

// wantChecked holds Check, and that every call has its error ahead of all else.
func wantChecked(t *testing.T, x api.Table, want api.Errno) {
	t.Helper()
	if e := bracket.Check(x); e != want {
		t.Errorf("Check of %v: %v, not %v", x, e, want)
	}
	if want == api.OK {
		return
	}
	for _, n := range []api.Dec{dec("5"), dec("-5"), dec("M"), dec("-M"), dec("?")} {
		wantRefused(t, x, n, want)
	}
	if got, e := bracket.Rising(x); got || e != want {
		t.Errorf("Rising of %v: %v %v, not %v", x, got, e, want)
	}
	if got, e := bracket.Joined(x); got || e != want {
		t.Errorf("Joined of %v: %v %v, not %v", x, got, e, want)
	}
}

// P14.1: how many steps there are.
func TestCheckCounts(t *testing.T) {
	for n := 1; n <= api.MaxSteps; n++ {
		wantChecked(t, long(n), api.OK)
	}
	wantChecked(t, api.Table{}, api.ErrTable)
	wantChecked(t, api.Table{Name: "T"}, api.ErrTable)
	wantChecked(t, api.Table{Steps: []api.Step{}}, api.ErrTable)
	wantChecked(t, api.Table{Steps: make([]api.Step, 1)}, api.OK)
	for _, n := range []int{33, 34, 1000, 1 << 16} {
		wantChecked(t, long(n), api.ErrLong)
		wantChecked(t, api.Table{Steps: make([]api.Step, n)}, api.ErrLong)
	}
	// That there are too many is told ahead of all that is wrong with them.
	x := long(33)
	x.Steps[0].Rate = dec("?")
	x.Steps[1].From = dec("-1")
	wantChecked(t, x, api.ErrLong)
}

// P14.1: numbers that may not be, wherever they stand, are told ahead of an order that may not be, wherever that stands.
func TestCheckNumbers(t *testing.T) {
	for _, size := range []int{1, 2, 3, 5, 32} {
		for n := range size {
			for _, bad := range noDecs() {
				for field := range 3 {
					for swap := range size {
						x := long(size)
						if swap > 0 { // swap 0: the order is as it must be
							x.Steps[swap].From = x.Steps[swap-1].From
						}
						*[]*api.Dec{&x.Steps[n].From, &x.Steps[n].Base, &x.Steps[n].Rate}[field] = bad
						if e := bracket.Check(x); e != api.ErrDecimal {
							t.Fatalf("Check of %v: %v", x, e)
						}
						if swap < 2 {
							wantChecked(t, x, api.ErrDecimal)
						}
					}
				}
			}
		}
	}
}

// P14.1: a From that is not above the one ahead of it.
func TestCheckOrder(t *testing.T) {
	for _, c := range []struct {
		s    string
		want api.Errno
	}{
		{"0 0 0", api.OK}, {"-5 0 0", api.OK}, {"M 0 0", api.OK}, {"-M M -M", api.OK},
		{"0 0 0; 1 0 0", api.OK}, {"0 0 0; 0 0 0", api.ErrTable}, {"1 0 0; 0 0 0", api.ErrTable}, {"0 0 0; 0.00 0 0", api.ErrTable}, {"0.00 0 0; 0 0 0", api.ErrTable},
		{"1.5 0 0; 1.50 0 0", api.ErrTable}, {"1.50 0 0; 1.5 0 0", api.ErrTable}, {"1.5 0 0; 1.51 0 0", api.OK}, {"1.51 0 0; 1.5 0 0", api.ErrTable}, {"2 0 0; 1.99 0 0", api.ErrTable}, {"1.99 0 0; 2 0 0", api.OK},
		{"0 0 0; 0.000000000000000001 0 0", api.OK}, {"0.000000000000000001 0 0; 0 0 0", api.ErrTable}, {"1 0 0; 1.000000000000000000 0 0", api.ErrTable},
		{"-1 0 0; 0 0 0", api.OK}, {"-2 0 0; -1 0 0", api.OK}, {"-1 0 0; -2 0 0", api.ErrTable}, {"0 0 0; -1 0 0", api.ErrTable}, {"-1 0 0; -1.0 0 0", api.ErrTable}, {"-1 0 0; 1 0 0", api.OK}, {"1 0 0; -1 0 0", api.ErrTable},
		{"-M 0 0; M 0 0", api.OK}, {"M 0 0; -M 0 0", api.ErrTable}, {"M/1 0 0; M 0 0", api.OK}, {"M 0 0; M/1 0 0", api.ErrTable}, {"M/18 0 0; M/17 0 0; M 0 0", api.OK}, {"-M 0 0; -M/18 0 0", api.OK},
		{"0 0 0; 1 0 0; 1 0 0", api.ErrTable}, {"0 0 0; 2 0 0; 1 0 0", api.ErrTable}, {"0 0 0; 0 0 0; 1 0 0", api.ErrTable}, {"1 0 0; 0 0 0; 2 0 0", api.ErrTable}, {"0 0 0; 5 0 0; 1 0 0; 6 0 0", api.ErrTable}, {"5 0 0; 6 0 0; 1 0 0; 2 0 0", api.ErrTable},
		// Neither bases nor rates have an order.
		{"0 9 9; 1 5 5; 2 7 7", api.OK}, {"0 -9 -9; 1 -9 -9", api.OK}, {"0 1.0 1.0; 1 1.00 1.00", api.OK},
	} {
		wantChecked(t, table(c.s), c.want)
		checkTable(t, table(c.s))
	}
	for n := 1; n < api.MaxSteps; n++ {
		for _, ahead := range []api.Dec{long(32).Steps[n-1].From, small(int64(100*(n-1)), 1), small(int64(10*(n-1))-1, 0), dec("-M")} {
			x := long(32)
			x.Steps[n].From = ahead
			wantChecked(t, x, api.ErrTable)
		}
	}
}

// P14.1: the Name counts for nothing but in Same.
func TestNames(t *testing.T) {
	for _, name := range []string{"", "T", "1", "return", "a b", "\x00\xff", "é", strings.Repeat("x", 33), strings.Repeat("x", 1<<16)} {
		x := table(example)
		x.Name = name
		wantChecked(t, x, api.OK)
		wantNumber(t, x, "50", 0, "5.0")
		checkTable(t, x)
		if !bracket.Same(x, x) || bracket.Same(x, api.Table{Name: name + "x", Steps: x.Steps}) || bracket.Same(api.Table{Name: name + "x"}, api.Table{Name: name}) {
			t.Errorf("Same of tables by the name %q", name)
		}
		wantChecked(t, api.Table{Name: name}, api.ErrTable)
		wantChecked(t, api.Table{Name: name, Steps: []api.Step{{}, {}}}, api.ErrTable)
	}
}

// changes make a table another one, each in one field of one step alone.
func changes() []func(s *api.Step) {
	var l []func(s *api.Step)
	for field := range 3 {
		number := func(s *api.Step) *api.Dec { return [...]*api.Dec{&s.From, &s.Base, &s.Rate}[field] }
		l = append(l, func(s *api.Step) { number(s).Scale++ }, func(s *api.Step) { number(s).Scale = -1 }, func(s *api.Step) { number(s).Neg = !number(s).Neg },
			func(s *api.Step) { *number(s), _ = decimal.Rescale(*number(s), number(s).Scale+1, api.Down) })
		for limb := range 4 {
			l = append(l, func(s *api.Step) { number(s).N[limb] ^= 1 << 63 })
		}
	}
	return l
}

// P14.1: Same, field by field.
func TestSame(t *testing.T) {
	for _, size := range []int{1, 2, 5, 32, 40} {
		x := long(size)
		if !bracket.Same(x, x) || !bracket.Same(x, long(size)) {
			t.Errorf("Same of %d steps", size)
		}
		for n := range size {
			for i, change := range changes() {
				y := long(size)
				change(&y.Steps[n])
				if y.Steps[n] == x.Steps[n] {
					t.Fatalf("change %d changes nothing", i)
				}
				if bracket.Same(x, y) || bracket.Same(y, x) || !bracket.Same(y, y) {
					t.Errorf("Same: change %d at step %d of %d", i, n, size)
				}
			}
			part := api.Table{Name: x.Name, Steps: x.Steps[:n]}
			if bracket.Same(x, part) || bracket.Same(part, x) {
				t.Errorf("Same of %d steps and %d", size, n)
			}
		}
	}
	a, b := table("0 0 0.1; 100 10 0.2"), table("0 0 0.1; 100 10 0.20")
	if bracket.Same(a, b) || bracket.Same(b, a) {
		t.Error("Same of scales that are not")
	}
	slices.Reverse(b.Steps)
	slices.Reverse(a.Steps)
	if bracket.Same(a, b) || bracket.Same(a, table(example)) || !bracket.Same(b, b) {
		t.Error("Same of steps in another order")
	}
	none, empty := api.Table{}, api.Table{Steps: []api.Step{}}
	if !bracket.Same(none, empty) || !bracket.Same(empty, none) || !bracket.Same(none, none) || bracket.Same(none, api.Table{Steps: make([]api.Step, 1)}) || bracket.Same(none, api.Table{Name: "T"}) {
		t.Error("Same of tables without steps")
	}
}

// P14.2: numbers that may not be, and those below the first From.
func TestStepRefuses(t *testing.T) {
	for _, s := range []string{"0 0 0", example, "M 0 0", "-M 0 0; M 0 0"} {
		for _, bad := range noDecs() {
			wantRefused(t, table(s), bad, api.ErrDecimal)
		}
	}
	for _, c := range []struct{ s, n string }{
		{"0 0 0", "-1"}, {"0 0 0", "-" + least18}, {"0 0 0", "-M"}, {"0.00 5 5", "-0.01"}, {"5 0 0", "4"}, {"5 0 0", "4.999999999999999999"}, {"5.00 0 0", "4.9"}, {"5 0 0", "0"}, {"-5 0 0", "-5.01"}, {"-5 0 0", "-6"},
		{"M 0 0", "0"}, {"M 0 0", "M/1"}, {"-M/1 0 0", "-M"}, {example, "-0.1"}, {"1 0 0; 2 0 0; 3 0 0", "0.9"},
	} {
		wantRefused(t, table(c.s), dec(c.n), api.ErrLow)
	}
}

// P14.2: at each From, just above and just below it, at unlike scales, in tables of every size.
func TestStepAtEachFrom(t *testing.T) {
	for size := 1; size <= api.MaxSteps; size++ {
		x := long(size)
		for n := range size {
			for scale := range api.MaxScale + 1 {
				from, _ := decimal.Rescale(x.Steps[n].From, scale, api.Down)
				above, _ := decimal.Add(from, small(1, scale))
				below, _ := decimal.Sub(from, small(1, scale))
				wantStepOf(t, x, from, n)
				wantStepOf(t, x, above, n)
				wantStepOf(t, x, below, n-1)
			}
		}
		for _, far := range []string{"M", "M/1", "1000000"} {
			wantStepOf(t, x, dec(far), size-1)
		}
	}
}

func wantStepOf(t *testing.T, x api.Table, n api.Dec, want int) {
	t.Helper()
	wantErr := api.OK
	if want < 0 {
		want, wantErr = 0, api.ErrLow
	}
	if got, e := bracket.Step(x, n); got != want || e != wantErr {
		t.Fatalf("Step of %v in a table of %d steps: %d %v, not %d", n, len(x.Steps), got, e, want)
	}
	checkNumber(t, x, n)
}

// P14.2: steps whose Froms have unlike scales, and some below 0.
func TestStepAtScales(t *testing.T) {
	x := table("-M 0 0; -2.50 0 0; -2.499 0 0; 0.000000000000000000 0 0; 0.000000000000000001 0 0; 1.5 0 0; 1.51 0 0; 2 0 0; M/18 0 0; M/1 0 0; M 0 0")
	for n, s := range []string{"-M", "-2.5", "-2.4990", "0", least18, "1.500", "1.510000000000000000", "2.0", "M/18", "M/1", "M"} {
		wantStepOf(t, x, dec(s), n)
	}
	for s, n := range map[string]int{"-2.51": 0, "-M/1": 0, "-2.4995": 1, "-2.49900": 2, "-" + least18: 2, "0.0": 3, "0.000000000000000002": 4, "1.4999": 4, "1.50999": 5, "1.6": 6, "1.999999999999999999": 6, "3": 7, "M/17": 8} {
		wantStepOf(t, x, dec(s), n)
	}
}

// P14.2: Looks is the number of binary digits.
func TestLooks(t *testing.T) {
	for _, n := range []int{math.MinInt, math.MinInt + 1, -1 << 32, -33, -2, -1, 0} {
		if got := bracket.Looks(n); got != 0 {
			t.Errorf("Looks(%d): %d", n, got)
		}
	}
	for bit := range 63 {
		if got := bracket.Looks(1 << bit); got != bit+1 {
			t.Errorf("Looks of 2 to the %d: %d", bit, got)
		}
		if got := bracket.Looks(1<<bit - 1); got != bit {
			t.Errorf("Looks of one below 2 to the %d: %d", bit, got)
		}
	}
	if got := bracket.Looks(math.MaxInt); got != 63 {
		t.Errorf("Looks of the greatest number: %d", got)
	}
	for n := 1; n < 5000; n++ {
		if got := bracket.Looks(n); got != len(strconv.FormatInt(int64(n), 2)) {
			t.Errorf("Looks(%d): %d", n, got)
		}
	}
}

// P14.3: what one step says, in room and scale.
func TestAt(t *testing.T) {
	for _, c := range []struct{ step, n, want string }{
		{"0 0 0", "5", "0"}, {"0 0 0.1", "50", "5.0"}, {"0 7 0", "50", "7"}, {"0 7.00 0", "50", "7.00"}, {"0 7 0.00", "50", "7.00"}, {"0 7 0", "50.000", "7.000"}, {"0.0000 7 0", "50", "7.0000"},
		{"100 10 0.2", "150.5", "20.10"}, {"100.00 10 0.2", "150.5", "20.100"}, {"100 10.0000 0.2", "150.5", "20.1000"}, {"100 10 0.2", "150.500", "20.1000"}, {"100 10 0.2", "100", "10.0"}, {"100 10 0.2", "100.00", "10.000"},
		{"-100 10 0.2", "-50", "20.0"}, {"-100 10 0.2", "0", "30.0"}, {"-100 -30 0.2", "0", "-10.0"}, {"-100 -20 0.2", "0", "0.0"}, {"0 5 1", "5", "10"}, {"0 -5 1", "5", "0"}, {"0 0 100", "5", "500"},
		// Rates below 0.
		{"0 0 -0.1", "50", "-5.0"}, {"0 10 -0.1", "50", "5.0"}, {"0 5 -0.1", "50", "0.0"}, {"-100 0 -2", "-50", "-100"}, {"0 0 -0.1", "0", "0.0"},
		// Scales that together are just MaxScale lose nothing.
		{"0 0 0.000000001", "0.000000001", least18}, {"0 0 1.5", "0.00000000000000003", "0.000000000000000045"}, {"0 0 3", least18, "0.000000000000000003"}, {"0 0 " + least18, "3", "0.000000000000000003"},
		// Beyond it a half goes to the even digit.
		{"0 0 0.5", least18, "0.000000000000000000"}, {"0 0 0.5", "0.000000000000000003", "0.000000000000000002"}, {"0 0 0.5", "0.000000000000000005", "0.000000000000000002"}, {"0 0 0.5", "0.000000000000000007", "0.000000000000000004"}, {"0 0 0.51", least18, least18}, {"0 0 0.49", least18, "0.000000000000000000"}, {"0 0 0.51", "0.000000000000000005", "0.000000000000000003"},
		{"0 0 -0.5", least18, "0.000000000000000000"}, {"0 0 -0.5", "0.000000000000000003", "-0.000000000000000002"}, {"0 0 -0.5", "0.000000000000000005", "-0.000000000000000002"}, {"0 0 -0.51", least18, "-" + least18}, {"0 0 " + least18, least18, "0.000000000000000000"}, {"0 0 0.333333333333333333", "3.0", "0.999999999999999999"},
		{"0.0000000000 0 0.000000005", "0.5", "0.000000002500000000"}, {"0.0000000000 0 0.000000005", "0.0000000003", "0.000000000000000002"}, {"0.000000000000000000 1 0.5", "3", "2.500000000000000000"}, {"0.000000000000000002 1 0.5", "0.000000000000000005", "1.000000000000000002"},
		// It is the share that is rounded, ahead of the Base.
		{"0 0.000000000000000001 0.5", "0.000000000000000001", "0.000000000000000001"}, {"0 0.000000000000000001 0.5", "0.000000000000000003", "0.000000000000000003"}, {"0 -0.000000000000000001 0.5", "0.000000000000000001", "-0.000000000000000001"},
		// The greatest numbers that have room.
		{"0 0 1", "M", "M"}, {"0 0 -1", "M", "-M"}, {"0 0 0.1", "M", "M/1"}, {"0 0 " + least18, "M", "M/18"}, {"M 0 M", "M", "0"}, {"M M 1", "M", "M"}, {"0 M 0", "M", "M"}, {"0 -M 1", "M", "0"}, {"0 -M 2", "1", "-115792089237316195423570985008687907853269984665640564039457584007913129639933"}, {"-M -M 1", "0", "0"}, {"-M 0 1", "0", "M"}, {"-M M 0", "0", "M"}, {"-1 M -1", "0", "115792089237316195423570985008687907853269984665640564039457584007913129639934"}, {"M/1 0 1", "M/1", "0.0"},
	} {
		wantNumber(t, table(c.step), c.n, 0, c.want)
		checkNumber(t, table(c.step), dec(c.n))
	}
	// A product without room of its own has some where it is rounded.
	x := table("0 0 0.100000000000000000")
	want, _ := decimal.Rescale(dec("M/1"), 0, api.HalfEven)
	if got, e := bracket.At(x, dec("M/18")); got != (api.Dec{N: want.N, Scale: 18}) || e != api.OK {
		t.Errorf("At of a great number: %v %v", got, e)
	}
}

// P14.3: ErrOver at the difference, at the product, at the sum; what comes behind them makes nothing good.
func TestAtWithoutRoom(t *testing.T) {
	for _, c := range []struct{ step, n string }{
		{"-1 0 0", "M"}, {"-M 0 0", "1"}, {"-M -M -M", "M"}, {"0.0 0 0", "M"}, {"-0.1 0 0", "M/1"}, {"0.000000000000000000 0 0", "M/17"}, {"M/1 0 0", "M"}, {"-M/1 0 0", "M/1"}, {"-M 0 0", "0.0"},
		{"0 0 2", "M"}, {"0 -M 2", "M"}, {"0 M -2", "M"}, {"0 0 1.0", "M"}, {"0 0 M", "M"}, {"0 0 M", "2"}, {"0 0 -M", "2"}, {"0 0 M/18", "1.000000000000000001"}, {"0 0 M/18", "2"}, {"0 0 10.0", "M/18"}, {"1 0 M/5", "3.00"}, {"0 0 1.000000000000000001", "M/18"},
		{"0 1 1", "M"}, {"0 -1 -1", "M"}, {"0 M 1", "1"}, {"0 -M -1", "1"}, {"0 0.0 1", "M"}, {"0 M 0.1", "0"}, {"0 M 0", "0.0"}, {"0 M 0.1", "1"}, {"0 M/17 " + least18, "1"}, {"M M 0.1", "M"}, {"M -M M/18", "M"}, {"0 M/1 0.1", "1"},
	} {
		if step, e := bracket.Step(table(c.step), dec(c.n)); step != 0 || e != api.OK {
			t.Errorf("Step of %s in %s: %d %v", c.n, c.step, step, e)
		}
		if got, e := bracket.At(table(c.step), dec(c.n)); got != (api.Dec{}) || e != api.ErrOver {
			t.Errorf("At of %s in %s: %v %v", c.n, c.step, got, e)
		}
		checkNumber(t, table(c.step), dec(c.n))
	}
	// What another step has no room for counts for nothing.
	x := table("0 0 M; 10 0 0.1; 20 M M")
	wantNumber(t, x, "11", 1, "0.1")
	wantNumber(t, x, "1", 0, "M")
	wantNumber(t, x, "20", 2, "M")
	for _, n := range []string{"2", "9", "21"} {
		if got, e := bracket.At(x, dec(n)); got != (api.Dec{}) || e != api.ErrOver {
			t.Errorf("At of %s: %v %v", n, got, e)
		}
	}
}

// P14.4.
func TestShapes(t *testing.T) {
	for _, c := range []struct {
		s              string
		rising, joined bool
		e              api.Errno
	}{
		// One step has none ahead: its Rate alone counts.
		{"0 0 0", true, true, 0}, {"0 0 0.1", true, true, 0}, {"0 0 -0.1", false, true, 0}, {"5 -7 0.00", true, true, 0}, {"M M M", true, true, 0}, {"-M -M -M", false, true, 0},
		{example, true, true, 0}, {"0 0 0.1; 100 10 0.2; 1000 190 0.35", true, true, 0},
		// A Base that is as great at another scale, too little, too great.
		{"0 0 0.1; 100 10.0 0.2", true, true, 0}, {"0 0 0.1; 100 10.000000000000000000 0.2", true, true, 0}, {"0 0 0.10; 100.00 10 0.2", true, true, 0},
		{"0 0 0.1; 100 9.9 0.2", false, false, 0}, {"0 0 0.1; 100 9.999999999999999999 0.2", false, false, 0}, {"0 0 0.1; 100 0 0.2", false, false, 0}, {"0 0 0.1; 100 -10 0.2", false, false, 0},
		{"0 0 0.1; 100 10.1 0.2", true, false, 0}, {"0 0 0.1; 100 10.000000000000000001 0.2", true, false, 0}, {"0 0 0.1; 100 M 0.2", true, false, 0},
		// At the last step, in the midst; one that is too great does not make up for one that is too little.
		{"0 0 0.1; 100 10 0.2; 200 29 0", false, false, 0}, {"0 0 0.1; 100 10 0.2; 200 31 0", true, false, 0}, {"0 0 0.1; 100 9 0.2; 200 29 0", false, false, 0}, {"0 0 0.1; 100 11 0.2; 200 31 0", true, false, 0}, {"0 0 0.1; 100 9 0.2; 200 30 0", false, false, 0}, {"0 0 0.1; 100 11 0.2; 200 30 0", false, false, 0}, {"0 0 0.1; 100 9 0.2; 200 99 0", false, false, 0},
		// A Rate below 0: at the first step, in the midst, at the last one.
		{"0 0 -0.1; 100 -10 0.2", false, true, 0}, {"0 0 0.1; 100 10 -0.2", false, true, 0}, {"0 0 0.1; 100 10 -0.2; 200 -10 0", false, true, 0}, {"0 0 -0.1; 100 0 0.2", false, false, 0}, {"0 0 0.1; 100 11 -0.2", false, false, 0}, {"0 0 0.1; 100 10 -" + least18, false, true, 0},
		// The first Base is free; From may be below 0.
		{"0 50 0.1; 100 60 0.2", true, true, 0}, {"0 -50 0.1; 100 -40 0", true, true, 0}, {"-100 0 0.1; 0 10 0; 100 10 0", true, true, 0}, {"-100 0 0.1; -50 4 0", false, false, 0},
		// What the step ahead says is rounded, as At does it.
		{"0 0 0.5; 0.000000000000000001 0 0", true, true, 0}, {"0 0 0.5; 0.000000000000000003 0.000000000000000002 0", true, true, 0}, {"0 0 0.5; 0.000000000000000003 0.000000000000000001 0", false, false, 0}, {"0 0 0.5; 0.000000000000000005 0.000000000000000002 0", true, true, 0}, {"0 0 0.5; 0.000000000000000005 0.000000000000000003 0", true, false, 0},
		// It is that one's From, not the one's ahead, nor the whole table's answer there.
		{"0 0 1; 1 1 10; 2 11 100; 3 111 1000", true, true, 0}, {"0 0 1; 1 1 10; 2 2 100", false, false, 0},
		// No room: at the difference, at the product, at the sum.
		{"-1 0 0; M 0 0", false, false, api.ErrOver}, {"-M 0 0; 1 0 0", false, false, api.ErrOver}, {"0.0 0 0; M 0 0", false, false, api.ErrOver}, {"0 0 2; M 0 0", false, false, api.ErrOver}, {"0 0 M; 2 0 0", false, false, api.ErrOver}, {"0 0 1.0; M 0 0", false, false, api.ErrOver}, {"0 1 1; M 0 0", false, false, api.ErrOver}, {"0 M 1; 1 M 0", false, false, api.ErrOver}, {"0 -M -1; 1 -M 0", false, false, api.ErrOver},
		{"0 0 1; M M 0", true, true, 0}, {"0 0 1; M M M", true, true, 0}, {"-M -M 1; 0 0 1; M M 0", true, true, 0},
		// At the first joint, at the last one; the last step's own share is not asked.
		{"0 0 M; 2 0 0; 3 0 0", false, false, api.ErrOver}, {"0 0 0; 2 0 M; 4 0 0", false, false, api.ErrOver}, {"0 0 0; 2 0 0; 4 M M", true, false, 0}, {"0 0 0; 2 0 M; 3 M 0", true, true, 0},
		// What has no room is told, too, where something else already says no.
		{"0 0 -1; 1 -1 M; 3 0 0", false, false, api.ErrOver}, {"0 0 1; 1 0 M; 3 0 0", false, false, api.ErrOver}, {"0 0 M; 2 0 0; 3 -1 0", false, false, api.ErrOver}, {"0 0 M; 2 0 -1", false, false, api.ErrOver}, {"0 0 1; 1 9 M; 3 0 0", false, false, api.ErrOver},
	} {
		wantShapes(t, c.s, c.rising, c.joined, c.e)
	}
	for n := 1; n <= api.MaxSteps; n++ {
		x := long(n)
		checkTable(t, x)
		for i := range n {
			for _, d := range []int64{-1, 1} {
				y := long(n)
				y.Steps[i].Base, _ = decimal.Add(y.Steps[i].Base, small(d, 18))
				checkTable(t, y)
				y = long(n)
				y.Steps[i].Rate = small(d, 18)
				checkTable(t, y)
			}
		}
	}
}

// R3: what is handed in stays as it is, also behind the steps of a list that goes on.
func TestNothingIsWritten(t *testing.T) {
	for _, s := range []string{"", "0 0 0.1", example, "0 0 M; 2 0 0", "1 0 0; 0 0 0", "0 ? 0", "0 0 0; 1 0 0; 2 0 0; 3 0 0"} {
		x := table(s)
		was := slices.Clone(x.Steps)
		room := append(slices.Clone(x.Steps), table("7 8 9").Steps...)
		x.Steps = room[:len(was)]
		for _, n := range []string{"0", "5", "-1", "M", "?"} {
			for range 2 {
				checkNumber(t, x, dec(n))
				checkTable(t, x)
				if !bracket.Same(x, api.Table{Name: "T", Steps: was}) || room[len(was)] != table("7 8 9").Steps[0] {
					t.Fatalf("%s is written to: %v", s, room)
				}
			}
		}
	}
}
