package types

import (
	"fmt"
	"math"
	"math/rand"
	"strconv"
	"strings"
	"testing"

	"excise/api"
	"excise/grammar"
	"excise/scope"
)

func wantCheck(t *testing.T, d api.Def, place api.Place, want api.Errno) {
	t.Helper()
	p, e := Check(d)
	if p != place || e != want {
		t.Errorf("Check is %+v, %d, not %+v, %d, of %.3000q", p, e, place, want, fmt.Sprintf("%+v", d))
	}
}

func wantTaken(t *testing.T, d api.Def) {
	t.Helper()
	wantCheck(t, d, api.Place{}, api.OK)
}

func atItem(section, item int) api.Place {
	return api.Place{Kind: api.PlItem, Section: section, Item: item}
}

func atTable(n int) api.Place { return api.Place{Kind: api.PlTable, Table: n} }

func atPage(n int) api.Place { return api.Place{Kind: api.PlPage, Page: n} }

// partOf is a definition's section by its number.
func partOf(d *api.Def, n int) *api.Section {
	var found *api.Section
	var look func(s *api.Section)
	look = func(s *api.Section) {
		if n == 0 && found == nil {
			found = s
		}
		n--
		for i := range s.Kids {
			look(&s.Kids[i])
		}
	}
	look(&d.Root)
	return found
}

// P10.3: definitions as texts say them.
func TestCheckExamples(t *testing.T) {
	for text, want := range map[string]struct {
		place api.Place
		e     api.Errno
	}{
		"return r { }": {},
		"return r { field a : amount 2 needed ; line t : amount 2 half_up = a * 0.25 ; check c = t > 0 ; }":           {},
		"return r { field a : text ; line t : amount 0 up = a + 1 ; }":                                                {atItem(0, 1), api.ErrKind},
		"return r { field a : amount 18 ; field b : amount 0 ; }":                                                     {},
		"return r { field a : amount 18 ; field b : amount 19 ; }":                                                    {atItem(0, 1), api.ErrKind},
		"return r { line a : amount 19 up = 1 ; }":                                                                    {atItem(0, 0), api.ErrKind},
		"return r { line a : amount 0 up = round ( 1 , 19 , up ) ; }":                                                 {atItem(0, 0), api.ErrScale},
		"return r { line a : flag = 1 ; }":                                                                            {atItem(0, 0), api.ErrKind},
		"return r { line a : text = \"a\" ; line b : text = true ; }":                                                 {atItem(0, 1), api.ErrKind},
		"return r { check a = true ; check b = 1 ; }":                                                                 {atItem(0, 1), api.ErrKind},
		"return r { check a = b ; }":                                                                                  {atItem(0, 0), api.ErrUnknown},
		"return r { section s max 1 { line a : flag = 1 ; } line b : flag = a ; }":                                    {atItem(0, 0), api.ErrUnknown},
		"return r { section s max 1 { line a : flag = 1 ; } line b : flag = true ; }":                                 {atItem(1, 0), api.ErrKind},
		"return r { line b : amount 0 up = sum ( s . f ) ; section s max 1 { field f : flag ; } }":                    {atItem(0, 0), api.ErrKind},
		"return r { line b : amount 0 up = count ( s . f ) ; section s max 1 { field f : flag ; } }":                  {},
		"return r { field a : amount 0 ; page p when a { } }":                                                         {atPage(0), api.ErrKind},
		"return r { page p { } page q when true { } page r when s { } }":                                              {atPage(2), api.ErrUnknown},
		"return r { table t { from 0 base 1 rate - 1 ; from 0.1 base 0 rate 0 ; } }":                                  {},
		"return r { table t { from 0 base 0 rate 0 ; } table u { from 1 base 0 rate 0 ; from 1.0 base 0 rate 0 ; } }": {atTable(1), api.ErrKind},
		"return r { line a : flag = b ; line b : flag = a ; field sums : text ; line c : text = sums ; }":             {},
		"return r { field a : amount 0 ; check a = a ; section a max 1 { field a : flag ; check b = a ; } }":          {atItem(0, 1), api.ErrKind}, // names do not count here
	} {
		wantCheck(t, parsed(t, text), want.place, want.e)
	}
	wantTaken(t, api.Def{})
	wantTaken(t, parsed(t, kindText))
}

// A definition in which nothing is wrong; the sections are the root, s, u, w, x and y. What is behind reads what is ahead, but for aggregates, which read items k alone.
const baseText = `return r {
	field a : amount 2 ; line b : amount 0 half_up = a + sum ( s . k ) ; line c : flag = a > b ; line d : text = if ( c , "x" , "y" ) ; check e = c and d = "x" ; field f : flag ; field g : text ;
	section s max 5 { field k : amount 3 ; field h : amount 18 ; line i : amount 1 floor = t0 ( h ) * a + rows ( u ) ; line j : flag = f ; check l = i > h or j ;
		section u max 5 { field m : text ; line n : text = m ; check o = count ( w . k ) > 0 ;
			section w max 5 { field k : flag ; line p : flag = blank ( k ) and h > 1 ; } }
		section x max 5 { line q : amount 4 down = round ( a , 2 , up ) ; } }
	section y max 5 { field v : flag ; check z = v ; }
	table t0 { from 0 base 0 rate 0.1 ; from 10 base 1 rate 0.2 ; from 20.5 base 3 rate 0.3 ; }
	table t1 { from 1 base 0 rate 0 ; } table t2 { from - 5 base - 1 rate - 2 ; from - 4.5 base 0 rate 0 ; }
	page p0 { a , s } page p1 when f { y } page p2 when a > 0 and min ( s . k ) < 5 { } }`

// A spoiler makes one thing wrong: where, what, which of the definition's fields it writes to, and how.
type spoiler struct {
	place api.Place
	e     api.Errno
	field string
	spoil func(d *api.Def)
}

// spoilers are all that can be wrong with baseText, in the order in which Check tells it.
func spoilers(d api.Def) []spoiler {
	var l []spoiler
	for n, t := range d.Tables {
		l = append(l, numberSpoilers(n, len(t.Steps))...)
		l = append(l, stepSpoilers(n, t.Steps)...)
	}
	for n, s := range scope.Flat(d) {
		for i, item := range s.Items {
			if item.Name != "k" {
				l = append(l, itemSpoilers(n, i, item)...)
			}
		}
	}
	for n := range d.Pages {
		for _, w := range unlike(api.VFlag) {
			l = append(l, spoiler{atPage(n), w.e, "page" + strconv.Itoa(n), func(d *api.Def) { d.Pages[n].When = w.x }})
		}
	}
	return l
}

// numberSpoilers put numbers that may not be into a table.
func numberSpoilers(n, steps int) []spoiler {
	var l []spoiler
	for i := range steps {
		for part := range 3 {
			for _, bad := range badDecs {
				key := "table" + strconv.Itoa(n) + "." + strconv.Itoa(i) + "." + strconv.Itoa(part)
				l = append(l, spoiler{atTable(n), api.ErrDecimal, key, func(d *api.Def) {
					s := &d.Tables[n].Steps[i]
					*[]*api.Dec{&s.From, &s.Base, &s.Rate}[part] = bad
				}})
			}
		}
	}
	return l
}

// stepSpoilers make a table's steps such as do not rise: as great as the one ahead, also at another scale, or less.
func stepSpoilers(n int, steps []api.Step) []spoiler {
	var l []spoiler
	for i := 1; i < len(steps); i++ {
		ahead := steps[i-1].From
		wider := ahead
		wider.N[0], wider.Scale = ahead.N[0]*10, ahead.Scale+1
		for _, from := range []api.Dec{ahead, wider, minus(6, 0), minus(1000, 1), {Neg: true, N: greatest}} {
			key := "table" + strconv.Itoa(n) + "." + strconv.Itoa(i) + ".0"
			l = append(l, spoiler{atTable(n), api.ErrKind, key, func(d *api.Def) { d.Tables[n].Steps[i].From = from }})
		}
	}
	return l
}

// unlike are expressions with each error, also at just MaxNodes and with one node more, and some of other kinds than one.
func unlike(kind int) []wrong {
	l := []wrong{{tower(constant(flagValue(true)), api.MaxNodes), api.ErrNodes}, {tower(reads("nobody"), api.MaxNodes), api.ErrNodes}}
	l = append(l, wrong{tower(constant(numValue(badDecs[2])), api.MaxNodes-1), api.ErrDecimal}, wrong{constant(numValue(badDecs[0])), api.ErrDecimal},
		wrong{not(reads("nobody")), api.ErrUnknown}, wrong{column(api.AgSum, "nobody", "k"), api.ErrUnknown}, wrong{api.Expr{Kind: api.ExBracket, Name: "t9"}, api.ErrUnknown},
		wrong{api.Expr{Kind: api.ExRound, Scale: -1}, api.ErrScale}, wrong{api.Expr{Kind: api.ExRound}, api.ErrPolicy},
		wrong{not(constant(numValue(dec(1, 0)))), api.ErrKind}, wrong{api.Expr{Kind: 11}, api.ErrKind}, wrong{api.Expr{Kind: -1}, api.ErrKind})
	for _, v := range []api.Value{numValue(dec(5, 0)), flagValue(false), textValue("x")} {
		if v.Kind != kind {
			l = append(l, wrong{constant(v), api.ErrKind}, wrong{over(api.Expr{Kind: api.ExIf}, constant(flagValue(true)), constant(v), constant(v)), api.ErrKind})
		}
	}
	return l
}

// itemSpoilers come in the order in which an item is asked: of no kind, of no type, with no policy, its expression.
func itemSpoilers(n, i int, item api.Item) []spoiler {
	var l []spoiler
	add := func(e api.Errno, key string, spoil func(item *api.Item)) {
		key += strconv.Itoa(n) + "." + strconv.Itoa(i)
		l = append(l, spoiler{atItem(n, i), e, key, func(d *api.Def) { spoil(&partOf(d, n).Items[i]) }})
	}
	for _, kind := range []int{0, 4, -1, math.MaxInt, math.MinInt} {
		add(api.ErrKind, "kind", func(item *api.Item) { item.Kind = kind })
	}
	want := api.VFlag
	if item.Kind != api.ItCheck {
		want = item.Type.Kind
		for _, of := range oddTypes {
			add(api.ErrKind, "type", func(item *api.Item) { item.Type = of })
		}
	}
	if item.Kind == api.ItLine && want == api.VNum {
		for _, policy := range []int{0, 6, -1, math.MaxInt, math.MinInt} {
			add(api.ErrPolicy, "policy", func(item *api.Item) { item.Policy = policy })
		}
	}
	if item.Kind != api.ItField {
		for _, w := range append(unlike(want), wrong{api.Expr{}, api.ErrKind}) {
			add(w.e, "expr", func(item *api.Item) { item.Expr = w.x })
		}
	}
	return l
}

// P10.3: each error at each place, by itself.
func TestCheckEach(t *testing.T) {
	base := parsed(t, baseText)
	wantTaken(t, base)
	l := spoilers(base)
	if len(l) < 500 {
		t.Error("only so many:", len(l))
	}
	for _, s := range l {
		d := grammar.Clone(base)
		s.spoil(&d)
		was := grammar.Clone(d)
		wantCheck(t, d, s.place, s.e)
		if !grammar.Same(d, was) {
			t.Errorf("Check has written to what was handed in: %+v", s)
		}
	}
}

// fewer leaves of spoilers that write to one field for one error at one place the first and the last one.
func fewer(l []spoiler) []spoiler {
	same := func(a, b spoiler) bool { return a.place == b.place && a.e == b.e && a.field == b.field }
	var few []spoiler
	for i, s := range l {
		if i == 0 || i == len(l)-1 || !same(s, l[i-1]) || !same(s, l[i+1]) {
			few = append(few, s)
		}
	}
	return few
}

// P10.3: of any two errors the one that the chapter names first is told, whichever was made first.
func TestCheckPairs(t *testing.T) {
	base := parsed(t, baseText)
	l := fewer(spoilers(base))
	pairs := 0
	for i, first := range l {
		for _, second := range l[i+1:] {
			if first.field == second.field {
				continue
			}
			pairs++
			d := grammar.Clone(base)
			if pairs%2 == 0 {
				first.spoil(&d)
				second.spoil(&d)
			} else {
				second.spoil(&d)
				first.spoil(&d)
			}
			wantCheck(t, d, first.place, first.e)
		}
	}
	if pairs < 10000 {
		t.Error("only so many pairs:", pairs)
	}
}

// P10.3: of many errors the first one is told.
func TestCheckMany(t *testing.T) {
	base := parsed(t, baseText)
	l := spoilers(base)
	r := rand.New(rand.NewSource(10))
	for range 5000 {
		d := grammar.Clone(base)
		first := len(l)
		fields := map[string]bool{}
		for range 2 + r.Intn(8) {
			n := r.Intn(len(l))
			if !fields[l[n].field] {
				fields[l[n].field] = true
				first = min(first, n)
				l[n].spoil(&d)
			}
		}
		wantCheck(t, d, l[first].place, l[first].e)
	}
}

func table(froms ...api.Dec) api.Def {
	return api.Def{Tables: []api.Table{{Steps: many(len(froms), func(i int) api.Step { return api.Step{From: froms[i]} })}}}
}

// P10.3: tables whose steps rise, are alike, or fall, at like and unlike scales; how many they are counts for nothing.
func TestCheckTables(t *testing.T) {
	rising := [][]api.Dec{{}, {dec(0, 0)}, {dec(7, 18)}, {minus(1, 0), dec(0, 5)}, {minus(2, 0), minus(11, 1), minus(1, 0)}, {dec(9, 2), dec(1, 1), dec(11, 2)}, {dec(0, 18), dec(1, 18)},
		{dec(99, 2), dec(1, 0), dec(101, 2)}, {{Neg: true, N: greatest}, {N: greatest, Scale: 18}, {N: greatest, Scale: 17}, {N: greatest}}, {dec(1, 18), {N: greatest}},
		many(32, func(i int) api.Dec { return dec(uint64(i), 3) }), many(33, func(i int) api.Dec { return dec(uint64(i), 3) }), many(1000, func(i int) api.Dec { return dec(uint64(i), 0) })}
	for _, froms := range rising {
		wantTaken(t, table(froms...))
		for i := 1; i < len(froms) && i < 40; i++ {
			swapped := append([]api.Dec{}, froms...)
			swapped[i-1], swapped[i] = swapped[i], swapped[i-1]
			wantCheck(t, table(swapped...), atTable(0), api.ErrKind)
			alike := append([]api.Dec{}, froms...)
			alike[i] = alike[i-1]
			wantCheck(t, table(alike...), atTable(0), api.ErrKind)
		}
	}
	for _, froms := range [][]api.Dec{{dec(0, 0), dec(0, 18)}, {dec(5, 0), dec(50, 1)}, {dec(50, 1), dec(5, 0)}, {minus(1, 0), minus(100, 2)}, {minus(1, 0), minus(1, 0)}, {dec(1, 0), minus(2, 0)},
		{minus(1, 0), minus(11, 1)}, {dec(10, 2), dec(9, 2), dec(11, 2)}, {dec(1, 0), dec(2, 0), dec(3, 0), dec(20, 1)}, {{N: greatest}, {N: greatest}}, {{N: greatest}, dec(1, 0)}} {
		wantCheck(t, table(froms...), atTable(0), api.ErrKind)
	}
	// Numbers that may not be are told ahead of steps that do not rise, wherever they stand.
	d := table(dec(5, 0), dec(5, 0), dec(1, 0), dec(9, 0))
	d.Tables[0].Steps[3].Rate = minus(0, 0)
	wantCheck(t, d, atTable(0), api.ErrDecimal)
	d.Tables = append([]api.Table{{Steps: d.Tables[0].Steps[:3]}}, d.Tables...)
	wantCheck(t, d, atTable(0), api.ErrKind)
	d.Tables[0].Steps = d.Tables[0].Steps[1:2]
	wantCheck(t, d, atTable(1), api.ErrDecimal)
	d.Tables[1].Steps = nil
	wantTaken(t, d)
}

// P10.3: base and rate need not rise.
func TestCheckBaseRate(t *testing.T) {
	for _, a := range goodDecs {
		for _, b := range goodDecs {
			d := table(dec(1, 0), dec(2, 0))
			d.Tables[0].Steps[0].Base, d.Tables[0].Steps[1].Rate = a, a
			d.Tables[0].Steps[1].Base, d.Tables[0].Steps[0].Rate = b, b
			wantTaken(t, d)
		}
	}
}

// P10.3: what an item of its kind does not have counts for nothing.
func TestCheckOtherFields(t *testing.T) {
	bad := over(reads("nobody"), constant(numValue(badDecs[0])))
	d := parsed(t, "return r { field a : amount 2 ; line b : flag = true ; line c : text = \"x\" ; check d = b ; }")
	d.Name, d.Root.Name, d.Root.Max = "sum", "sum", -1
	d.Root.Items[0].Expr, d.Root.Items[0].Policy, d.Root.Items[0].Name = bad, 99, ""
	d.Root.Items[1].Policy, d.Root.Items[1].Need = 99, true
	d.Root.Items[2].Policy, d.Root.Items[2].Name = -1, "b"
	d.Root.Items[3].Type, d.Root.Items[3].Policy, d.Root.Items[3].Need = api.Type{Kind: 9, Scale: 99}, 77, true
	d.Pages = []api.Page{{Items: []string{"nobody", "nobody"}}, {Name: "9", When: constant(flagValue(true))}, {}}
	d.Tables = make([]api.Table, 20)
	wantTaken(t, d)
	d.Pages[0].When.Args, d.Pages[2].When = []api.Expr{bad}, api.Expr{Name: "nobody", Op: 5, Args: []api.Expr{bad}} // without a Kind there is none
	wantTaken(t, d)
	d.Root.Items[1].Type.Kind = api.VNum
	d.Root.Items[1].Expr = constant(numValue(dec(1, 0)))
	wantCheck(t, d, atItem(0, 1), api.ErrPolicy)
	for policy := api.HalfUp; policy <= api.Floor; policy++ {
		d.Root.Items[1].Policy = policy
		wantCheck(t, d, atItem(0, 3), api.ErrKind) // which reads b
	}
}

// P10.3: a line's type against its expression's kind, at each scale.
func TestCheckLines(t *testing.T) {
	for _, kind := range []int{api.VNum, api.VFlag, api.VText} {
		for _, v := range goodConsts() {
			for scale := range 19 {
				if kind != api.VNum {
					scale = 0
				}
				d := api.Def{Root: api.Section{Items: []api.Item{{Kind: api.ItLine, Policy: 1 + scale%5, Type: api.Type{Kind: kind, Scale: scale}, Expr: constant(v)}}}}
				if v.Kind == kind {
					wantTaken(t, d)
				} else {
					wantCheck(t, d, atItem(0, 0), api.ErrKind)
				}
			}
		}
	}
}

// P10.3: expressions are read in their own section, pages' in the root.
func TestCheckWhere(t *testing.T) {
	text := `return r { field a : flag ; section s max 1 { field b : flag ; section u max 1 { field c : flag ; check d = true ; } check e = true ; } section v max 1 { field f : flag ; check g = true ; } check h = true ; page p when true { } }`
	can := map[string]string{"0.1": "a", "1.1": "a b", "2.1": "a b c", "3.1": "a f", "page": "a"}
	for at, names := range can {
		for _, name := range strings.Fields("a b c f") {
			d := parsed(t, text)
			place := atPage(0)
			if at == "page" {
				d.Pages[0].When = reads(name)
			} else {
				place = atItem(int(at[0]-'0'), 1)
				partOf(&d, place.Section).Items[1].Expr = reads(name)
			}
			if strings.Contains(names, name) {
				wantTaken(t, d)
			} else {
				wantCheck(t, d, place, api.ErrUnknown)
			}
		}
	}
}

// P10.3: sections that Flat leaves out are not asked, and not read.
func TestCheckLeftOut(t *testing.T) {
	bad := api.Item{Kind: api.ItCheck}
	for _, at := range []int{1, 62, 63, 64, 65, 99} {
		d := api.Def{Root: api.Section{Kids: many(99, func(i int) api.Section { return field("k"+strconv.Itoa(i+1), "b") })}}
		d.Root.Kids[at-1].Items = append(d.Root.Kids[at-1].Items, bad)
		read := grammar.Clone(d)
		read.Root.Items = []api.Item{{Kind: api.ItLine, Type: api.Type{Kind: api.VNum}, Policy: 1, Expr: column(api.AgSum, "k"+strconv.Itoa(at), "b")}}
		if at < 64 {
			wantCheck(t, d, atItem(at, 1), api.ErrKind)
			wantCheck(t, read, atItem(at, 1), api.ErrKind)
		} else {
			wantTaken(t, d)
			wantCheck(t, read, atItem(0, 0), api.ErrUnknown)
		}
	}
	for _, at := range []int{1, 14, 15, 16, 17, 30} {
		d := api.Def{Root: field("", "a", field("s", "b"))}
		s := &d.Root.Kids[0]
		for n := 2; n <= 30; n++ {
			s.Kids = []api.Section{field("s", "b")}
			s = &s.Kids[0]
		}
		s = partOf(&d, at)
		s.Items = append(s.Items, bad)
		if at < 16 {
			wantCheck(t, d, atItem(at, 1), api.ErrKind)
		} else {
			wantTaken(t, d)
		}
	}
}

// R4: empty and nil lists are the same.
func TestCheckEmptyLists(t *testing.T) {
	empty := api.Def{Tables: []api.Table{{Steps: []api.Step{}}}, Pages: []api.Page{{When: api.Expr{Args: []api.Expr{}}, Items: []string{}}},
		Root: api.Section{Items: []api.Item{{Name: "a", Kind: api.ItCheck, Expr: over(constant(flagValue(true)), []api.Expr{}...)}}, Kids: []api.Section{{Items: []api.Item{}, Kids: []api.Section{}}}}}
	wantTaken(t, empty)
	wantTaken(t, grammar.Clone(empty))
	empty.Tables[0].Steps = nil
	wantTaken(t, empty)
	wantTaken(t, api.Def{Tables: []api.Table{}, Pages: []api.Page{}, Root: api.Section{Items: []api.Item{}, Kids: []api.Section{}}})
}
