package bracket_test

import (
	"math/rand/v2"
	"slices"
	"testing"

	"excise/api"
	"excise/bracket"
	"excise/decimal"
)

// anyDec is a number that may be: with few digits or many, next to the greatest one, often a half of something.
func anyDec(r *rand.Rand) api.Dec {
	d := api.Dec{Scale: r.IntN(api.MaxScale + 1)}
	switch r.IntN(5) {
	case 0:
		d = api.Dec{N: api.Nat{uint64(r.IntN(20))}, Scale: r.IntN(3)}
	case 1:
		d.N[0] = uint64(r.IntN(1000))
	case 2:
		d.N[0] = r.Uint64() >> r.IntN(64)
		d.Scale = api.MaxScale - r.IntN(2)
	case 3:
		for i := range 1 + r.IntN(4) {
			d.N[i] = r.Uint64()
		}
	case 4:
		d.N = api.Nat{full - uint64(r.IntN(3)), full, full, full >> r.IntN(64)}
	}
	d.Neg = r.IntN(3) == 0 && d.N != api.Nat{}
	return d
}

// tameDec is a number with few digits, so that there is room in what is reckoned with it.
func tameDec(r *rand.Rand, scales int) api.Dec {
	return small(int64(r.IntN(2000))-300, r.IntN(scales))
}

// unlike is the same number, at a greater scale where it comes so.
func unlike(r *rand.Rand, d api.Dec) api.Dec {
	if !mayBe(d) || r.IntN(2) == 0 {
		return d
	}
	more, e := decimal.Rescale(d, d.Scale+r.IntN(api.MaxScale+1-d.Scale), api.Down)
	if e != api.OK {
		return d
	}
	return more
}

// froms are numbers that rise, each above the one ahead, as many as it comes, at most MaxSteps.
func froms(r *rand.Rand, number func() api.Dec) []api.Dec {
	l := make([]api.Dec, 1+r.IntN(1+r.IntN(api.MaxSteps)))
	for i := range l {
		l[i] = number()
	}
	slices.SortFunc(l, order)
	return slices.CompactFunc(l, func(a, b api.Dec) bool { return order(a, b) == 0 })
}

// wild is a table whose steps rise, of any numbers.
func wild(r *rand.Rand) api.Table {
	var t api.Table
	for _, from := range froms(r, func() api.Dec { return anyDec(r) }) {
		t.Steps = append(t.Steps, api.Step{From: from, Base: anyDec(r), Rate: anyDec(r)})
	}
	return t
}

// broken is a table that mostly may not be: with a number that may not be, steps in another order, or too many.
func broken(r *rand.Rand) api.Table {
	t := wild(r)
	for range 1 + r.IntN(3) {
		s := &t.Steps[r.IntN(len(t.Steps))]
		switch r.IntN(6) {
		case 0:
			*[...]*api.Dec{&s.From, &s.Base, &s.Rate}[r.IntN(3)] = noDecs()[r.IntN(len(noDecs()))]
		case 1:
			s.From = unlike(r, t.Steps[r.IntN(len(t.Steps))].From)
		case 2:
			other := &t.Steps[r.IntN(len(t.Steps))]
			*s, *other = *other, *s
		case 3:
			s.From = anyDec(r)
		case 4:
			t.Steps = slices.Concat(t.Steps, t.Steps)
		case 5:
			t.Steps = slices.Insert(t.Steps, r.IntN(len(t.Steps)+1), *s)
		}
	}
	return t
}

// shaped is a table that is joined, but for a jump up in one of so many steps, and one down in as many; few numbers have no room in it. Few such tables have Rates below 0.
func shaped(r *rand.Rand, up, down int) api.Table {
	scales := []int{1, 3, 10, 19}[r.IntN(4)]
	rates := []int{1, 3, 10, 19}[r.IntN(4)]
	falling := r.IntN(5) == 0
	var t api.Table
	for i, from := range froms(r, func() api.Dec { return tameDec(r, scales) }) {
		s := api.Step{From: from, Base: tameDec(r, scales), Rate: tameDec(r, rates)}
		s.Rate.Neg = s.Rate.Neg && falling
		if i > 0 {
			s.Base, _ = wantSays(t.Steps[i-1], from)
			if r.IntN(up) == 0 {
				s.Base, _ = decimal.Add(s.Base, small(1+r.Int64N(50), r.IntN(19)))
			}
			if r.IntN(down) == 0 {
				s.Base, _ = decimal.Sub(s.Base, small(1+r.Int64N(50), r.IntN(19)))
			}
			if less, e := decimal.Trim(s.Base); e == api.OK && r.IntN(3) == 0 {
				s.Base = less
			}
		}
		s.Base = unlike(r, s.Base)
		t.Steps = append(t.Steps, s)
	}
	return t
}

// made is a table of any of these.
func made(r *rand.Rand) api.Table {
	const never = 1 << 30
	switch r.IntN(6) {
	case 0:
		return wild(r)
	case 1:
		return broken(r)
	case 2:
		return shaped(r, 10, 10)
	case 3:
		return shaped(r, 5, never)
	}
	return shaped(r, never, never)
}

// about are numbers at the table's Froms, next to them, between them, below and above all.
func about(r *rand.Rand, t api.Table) []api.Dec {
	l := []api.Dec{anyDec(r), tameDec(r, 19), dec("M"), dec("-M"), noDecs()[r.IntN(len(noDecs()))]}
	for _, s := range t.Steps {
		if !mayBe(s.From) {
			continue
		}
		from := unlike(r, s.From)
		l = append(l, s.From, from)
		for _, d := range []int64{-1, 1, 1 + r.Int64N(100)} {
			if near, e := decimal.Add(from, small(d, from.Scale)); e == api.OK {
				l = append(l, near)
			}
		}
	}
	return l
}

// P14.1 to P14.4 over made-up tables and numbers, those that may not be among them.
func TestMadeUp(t *testing.T) {
	r := rand.New(rand.NewPCG(14, 1))
	told := map[api.Errno]int{}
	shapes := map[[2]bool]int{}
	for range 2000 {
		x := made(r)
		checkTable(t, x)
		rising, joined, e := wantShape(x)
		told[e]++
		if e == api.OK {
			shapes[[2]bool{rising, joined}]++
		}
		for _, n := range about(r, x) {
			checkNumber(t, x, n)
			_, e := wantAt(x, n)
			told[e]++
		}
	}
	for _, e := range []api.Errno{api.OK, api.ErrLong, api.ErrOver, api.ErrDecimal, api.ErrTable, api.ErrLow} {
		if told[e] < 100 {
			t.Errorf("the error %v is told %d times", e, told[e])
		}
	}
	for _, shape := range [][2]bool{{false, false}, {false, true}, {true, false}, {true, true}} {
		if shapes[shape] < 100 {
			t.Errorf("the shape %v comes %d times", shape, shapes[shape])
		}
	}
}

// P14.1: Same of made-up tables is that all their fields are the same.
func TestSameMadeUp(t *testing.T) {
	r := rand.New(rand.NewPCG(14, 2))
	for range 3000 {
		a := made(r)
		b := api.Table{Steps: slices.Clone(a.Steps)}
		if !bracket.Same(a, b) || !bracket.Same(b, a) {
			t.Fatalf("Same of %v and itself", a)
		}
		n := r.IntN(len(b.Steps))
		l := changes()
		l[r.IntN(len(l))](&b.Steps[n])
		if same := a.Steps[n] == b.Steps[n]; bracket.Same(a, b) != same || bracket.Same(b, a) != same {
			t.Fatalf("Same of %v and %v", a, b)
		}
	}
}

// P14.5: a table that is Rising says no less of a greater number of the same scale.
func TestRisingSaysNoLess(t *testing.T) {
	r := rand.New(rand.NewPCG(14, 3))
	pairs, between := 0, 0
	for range 3000 {
		x := made(r)
		if rising, _ := bracket.Rising(x); !rising {
			continue
		}
		scale := r.IntN(api.MaxScale + 1)
		var last api.Dec
		step := -1
		for _, n := range sameScale(r, x, scale) {
			says, e := bracket.At(x, n)
			if e != api.OK {
				continue
			}
			at, _ := bracket.Step(x, n)
			if step >= 0 {
				pairs++
				if at != step {
					between++
				}
				if decimal.Cmp(says, last) < 0 {
					t.Fatalf("%v says %v of %v, and more of a lesser number: %v", x, says, n, last)
				}
			}
			last, step = says, at
		}
	}
	if pairs < 10000 || between < 2000 {
		t.Errorf("%d pairs of numbers, %d of them in unlike steps", pairs, between)
	}
}

// sameScale are numbers of a scale about a table's steps, rising.
func sameScale(r *rand.Rand, x api.Table, scale int) []api.Dec {
	var l []api.Dec
	for _, n := range about(r, x) {
		for range 2 {
			d, e := decimal.Rescale(n, scale, api.Floor)
			if e == api.OK {
				l = append(l, d)
			}
			if n, e = decimal.Add(d, small(1, scale)); e != api.OK {
				break
			}
		}
	}
	slices.SortFunc(l, order)
	return l
}

// P14.6: where a table is Joined and Rising the step that ends (a table of the steps ahead alone) says the same at a From as the one that begins. P14.7: at a From a table says just the step's Base.
func TestAtFroms(t *testing.T) {
	r := rand.New(rand.NewPCG(14, 4))
	joints, bases, noRoom := 0, 0, 0
	for range 4000 {
		x := made(r)
		if bracket.Check(x) != api.OK {
			continue
		}
		joined, _ := bracket.Joined(x)
		rising, _ := bracket.Rising(x)
		for i, s := range x.Steps {
			begins, e := bracket.At(x, unlike(r, s.From))
			if _, f := decimal.Rescale(s.Base, api.MaxScale, api.Down); e == api.ErrOver && f == api.ErrOver {
				noRoom++ // only the Base can be without room here, at a scale above its own
				continue
			}
			if e != api.OK {
				t.Fatalf("%v at its step %d: %v", x, i, e)
			}
			bases++
			if decimal.Cmp(begins, s.Base) != 0 || begins.Scale < s.Base.Scale {
				t.Fatalf("%v at its step %d: %v", x, i, begins)
			}
			if i == 0 || !joined || !rising {
				continue
			}
			joints++
			ends, e := bracket.At(api.Table{Steps: x.Steps[:i]}, s.From)
			if e != api.OK || decimal.Cmp(begins, ends) != 0 {
				t.Fatalf("%v at its step %d: %v, the step ahead %v %v", x, i, begins, ends, e)
			}
		}
	}
	if joints < 3000 || bases < 10000 || noRoom < 100 {
		t.Errorf("%d joints, %d bases, %d without room", joints, bases, noRoom)
	}
}
