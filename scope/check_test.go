package scope

import (
	"fmt"
	"math"
	"math/rand"
	"reflect"
	"slices"
	"strconv"
	"strings"
	"testing"

	"excise/api"
	"excise/grammar"
)

func wantCheck(t *testing.T, d api.Def, place api.Place, want api.Errno) {
	t.Helper()
	p, e := Check(d)
	if p != place || e != want {
		t.Errorf("Check is %+v, %d, not %+v, %d, of %.3000q", p, e, place, want, fmt.Sprintf("%+v", d))
	}
}

func wantTaken(t *testing.T, d api.Def) {
	t.Helper()
	wantCheck(t, d, api.Place{}, api.OK)
}

func atItem(section, item int) api.Place {
	return api.Place{Kind: api.PlItem, Section: section, Item: item}
}

func atSection(n int) api.Place { return api.Place{Kind: api.PlSection, Section: n} }

func atTable(n int) api.Place { return api.Place{Kind: api.PlTable, Table: n} }

func atPage(n int) api.Place { return api.Place{Kind: api.PlPage, Page: n} }

// P9.3: the chapter's examples, and those of the shared test as texts.
func TestCheckExamples(t *testing.T) {
	for text, want := range map[string]struct {
		place api.Place
		e     api.Errno
	}{
		"return r { }": {},
		"return r { field x : flag ; section s max 1 { line x : flag = true ; } }":                       {atItem(1, 0), api.ErrTwice},
		"return r { section s max 1 { field a : amount 0 ; line b : amount 0 up = sum ( s . a ) ; } }":   {atItem(1, 1), api.ErrUnknown},
		"return r { section s max 1 { field a : amount 0 ; } line b : amount 0 up = sum ( s . a ) ; }":   {},
		"return r { field a : flag ; page p { a } page q { a } }":                                        {atPage(1), api.ErrTwice},
		"return r { line b : flag = c ; line c : flag = b ; line d : flag = d ; }":                       {},
		"return r { section s max 0 { } }":                                                               {atSection(1), api.ErrSize},
		"return r { table t { from 0 base 0 rate 0 ; } table t { from 0 base 0 rate 0 ; } }":             {atTable(1), api.ErrTwice},
		"return r { line a : amount 0 up = t ( 1 ) ; }":                                                  {atItem(0, 0), api.ErrUnknown},
		"return r { line a : amount 0 up = t ( 1 ) ; table t { from 0 base 0 rate 0 ; } }":               {},
		"return r { field a : flag ; field b : text ; line c : flag = a + b ; page p when b { b , a } }": {},
	} {
		wantCheck(t, parsed(t, text), want.place, want.e)
	}
	d := sections()
	d.Root.Items = []api.Item{field("sum")}
	wantCheck(t, d, atItem(0, 0), api.ErrNamed)
	wantCheck(t, api.Def{}, api.Place{}, api.ErrNamed)
}

// A definition in which nothing is wrong; the sections are the root, s, u, w, x and y.
const baseText = `return r {
	field a : flag ; line b : flag = a ; check c = b ; field z : text ;
	section s max 5 { field d : flag ; line e : flag = a and d ; check f = rows ( u ) > 0 ;
		section u max 5 { field g : amount 0 ; line h : flag = d or a ; check i = sum ( w . k ) > 0 ;
			section w max 5 { field j : flag ; line k : amount 0 up = t0 ( g ) ; check l = blank ( j ) ; } }
		section x max 5 { field m : flag ; line n : flag = m ; check o = a ; } }
	section y max 5 { field p : flag ; line q : flag = p ; check v = q ; }
	table t0 { from 0 base 0 rate 0 ; } table t1 { from 0 base 0 rate 0 ; } table t2 { from 0 base 0 rate 0 ; }
	page p0 when a and count ( s . e ) > 0 { a , s } page p1 when b { y } page p2 { } }`

// partOf is a definition's section by its number.
func partOf(d *api.Def, n int) *api.Section {
	var found *api.Section
	var look func(s *api.Section)
	look = func(s *api.Section) {
		if n == 0 && found == nil {
			found = s
		}
		n--
		for i := range s.Kids {
			look(&s.Kids[i])
		}
	}
	look(&d.Root)
	return found
}

// A spoiler makes one thing wrong: where, what, which of the definition's fields it writes to, and how.
type spoiler struct {
	place api.Place
	e     api.Errno
	field string
	spoil func(d *api.Def)
}

// The names that the sections of baseText, and their items, may not have, from 0 on; of items those ahead of them come to these.
var (
	sectionMayNot = []string{"", "a b c z", "a b c z s d e f", "a b c z s d e f u g h i", "a b c z s d e f u", "a b c z s"}
	itemMayNot    = []string{"", "a b c z s", "a b c z s d e f u", "a b c z s d e f u g h i w", "a b c z s d e f x", "a b c z y"}
	itemNames     = []string{"a b c z", "d e f", "g h i", "j k l", "m n o", "p q v"}
)

// What may not be a name; the first one stands for all where that is enough.
var badNames = []string{"floor", "", "sum", "9a", "a b", "a-b", "\xe4", strings.Repeat("n", 33), strings.Repeat("n", 1<<16)}

func many[T any](n int, one func(i int) T) []T {
	var l []T
	for i := range n {
		l = append(l, one(i))
	}
	return l
}

func fresh(i int) string { return "fresh" + strconv.Itoa(i) }

func moreTables(d *api.Def) {
	d.Tables = append(d.Tables, many(6, func(i int) api.Table { return api.Table{Name: fresh(i), Steps: make([]api.Step, 1)} })...)
}

func moreSections(d *api.Def) {
	d.Root.Kids = append(d.Root.Kids, many(11, func(i int) api.Section { return section(fresh(i)) })...)
}

func morePages(d *api.Def) {
	d.Pages = append(d.Pages, many(14, func(i int) api.Page { return api.Page{Name: fresh(i)} })...)
}

func deeper(d *api.Def) { d.Root.Kids = append(d.Root.Kids, deep("deeper", 4)) }

// spoilers are all that can be wrong with baseText, in the order in which Check tells it; each place's names are as many as names has.
func spoilers(names []string) []spoiler {
	var l []spoiler
	for _, name := range names {
		l = append(l, spoiler{api.Place{}, api.ErrNamed, "def", func(d *api.Def) { d.Name = name }})
	}
	for i, more := range []func(d *api.Def){moreTables, moreSections, morePages, deeper} {
		l = append(l, spoiler{api.Place{}, api.ErrSize, "more" + strconv.Itoa(i), more})
	}
	l = append(l, tableSpoilers(names)...)
	for n := range 6 {
		l = append(l, sectionSpoilers(n, names)...)
		l = append(l, itemSpoilers(n, names)...)
	}
	for n := range 6 {
		l = append(l, formulaSpoilers(n)...)
	}
	for n := range 3 {
		l = append(l, pageSpoilers(n, names)...)
	}
	return l
}

func tableSpoilers(names []string) []spoiler {
	var l []spoiler
	for n := range 3 {
		key := "table" + strconv.Itoa(n)
		for _, name := range names {
			l = append(l, spoiler{atTable(n), api.ErrNamed, key, func(d *api.Def) { d.Tables[n].Name = name }})
		}
		for other := range n {
			l = append(l, spoiler{atTable(n), api.ErrTwice, key, func(d *api.Def) { d.Tables[n].Name = "t" + strconv.Itoa(other) }})
		}
		for _, many := range []int{0, 33, 1000} {
			l = append(l, spoiler{atTable(n), api.ErrSize, key + "steps", func(d *api.Def) { d.Tables[n].Steps = make([]api.Step, many) }})
		}
	}
	return l
}

func sectionSpoilers(n int, names []string) []spoiler {
	var l []spoiler
	key := "section" + strconv.Itoa(n)
	add := func(e api.Errno, key string, spoil func(s *api.Section)) {
		l = append(l, spoiler{atSection(n), e, key, func(d *api.Def) { spoil(partOf(d, n)) }})
	}
	rooms := []int{0, -1, 1025, math.MaxInt, math.MinInt}
	if n == 0 {
		names, rooms = []string{"top", "a", "sum", " "}, []int{1, -1, 5, math.MaxInt, math.MinInt}
	}
	for _, name := range names {
		add(api.ErrNamed, key, func(s *api.Section) { s.Name = name })
	}
	for _, name := range strings.Fields(sectionMayNot[n]) {
		add(api.ErrTwice, key, func(s *api.Section) { s.Name = name })
	}
	for _, more := range []int{61, 62, 200} {
		more := many(more+min(n, 1), func(i int) api.Item { return field(fresh(i)) })
		add(api.ErrSize, key+"items", func(s *api.Section) { s.Items = append(s.Items, more...) })
	}
	for _, room := range rooms {
		add(api.ErrSize, key+"max", func(s *api.Section) { s.Max = room })
	}
	return l
}

func itemSpoilers(n int, names []string) []spoiler {
	var l []spoiler
	own := strings.Fields(itemNames[n])
	for i := range own {
		add := func(e api.Errno, name string) {
			key := "item" + strconv.Itoa(n) + "." + strconv.Itoa(i)
			l = append(l, spoiler{atItem(n, i), e, key, func(d *api.Def) { partOf(d, n).Items[i].Name = name }})
		}
		for _, name := range names {
			add(api.ErrNamed, name)
		}
		for _, name := range append(strings.Fields(itemMayNot[n]), own[:i]...) {
			add(api.ErrTwice, name)
		}
	}
	return l
}

// Names that no expression of the sections of baseText can read, kids that they have not, and what their kids have that can't be read.
var (
	noNames   = []string{"r c s d nobody t0 p0 A", "c f s u x g m y p nobody", "c f i s u w j m", "c f i l w m t0", "c f o d2 u g", "c v y s d"}
	noKids    = []string{"r u w nobody a t0", "s y w d nobody", "u x s g", "w u y j", "x s u", "y s x"}
	noColumns = []string{"s.f s.a s.g s.u s.nobody y.v y.d", "u.i u.d u.w x.o x.a x.g", "w.l w.g w.d", "", "", ""}
)

// wrongExprs are expressions that read, in a section of baseText, what there is not.
func wrongExprs(n int) []api.Expr {
	var l []api.Expr
	for _, name := range strings.Fields(noNames[n]) {
		l = append(l, reads(name))
	}
	l = append(l, reads(""))
	for op := api.AgSum; op <= api.AgRows+1; op++ {
		for _, name := range strings.Fields(noKids[n]) {
			l = append(l, column(op, name, "a"), column(op, name, ""), column(op, name, "e"))
		}
		for _, name := range strings.Fields(noColumns[n]) {
			if op != api.AgRows {
				s, item, _ := strings.Cut(name, ".")
				l = append(l, column(op, s, item))
			}
		}
	}
	for _, name := range []string{"", "t3", "a", "s", "p0", "r", "t", "T0"} {
		l = append(l, api.Expr{Kind: api.ExBracket, Name: name, Args: []api.Expr{{Kind: api.ExConst}}})
	}
	return l
}

func formulaSpoilers(n int) []spoiler {
	var l []spoiler
	for i := 1; i < 3; i++ {
		key := "formula" + strconv.Itoa(n) + "." + strconv.Itoa(i)
		for _, x := range wrongExprs(n) {
			l = append(l, spoiler{atItem(n, i), api.ErrUnknown, key, func(d *api.Def) { partOf(d, n).Items[i].Expr = x }})
		}
	}
	return l
}

func pageSpoilers(n int, names []string) []spoiler {
	var l []spoiler
	key := "page" + strconv.Itoa(n)
	add := func(e api.Errno, key string, spoil func(p *api.Page)) {
		l = append(l, spoiler{atPage(n), e, key, func(d *api.Def) { spoil(&d.Pages[n]) }})
	}
	for _, name := range names {
		add(api.ErrNamed, key, func(p *api.Page) { p.Name = name })
	}
	for other := range n {
		add(api.ErrTwice, key, func(p *api.Page) { p.Name = "p" + strconv.Itoa(other) })
	}
	for _, long := range []int{65, 66, 1000} {
		add(api.ErrSize, key+"items", func(p *api.Page) { p.Items = many(long, func(int) string { return "a" }) })
	}
	for _, x := range wrongExprs(0) {
		add(api.ErrUnknown, key+"when", func(p *api.Page) { p.When = x })
	}
	for _, name := range []string{"", "b", "c", "d", "e", "u", "r", "p0", "t0", "nobody", "sum", "A"} {
		add(api.ErrUnknown, key+"items", func(p *api.Page) { p.Items = append([]string{name}, p.Items...) })
		add(api.ErrUnknown, key+"items", func(p *api.Page) { p.Items = append(slices.Clip(p.Items), name, name) })
	}
	twice := [][]string{{"z", "z"}, {"a", "s", "a"}, {"a", "z", "s", "s"}}
	if n > 0 {
		twice = [][]string{{"z", "z"}, {"a"}, {"s"}, {"z", "a"}, {"z", "a", "nobody"}}
	}
	for _, names := range twice {
		add(api.ErrTwice, key+"items", func(p *api.Page) { p.Items = names })
	}
	return l
}

// P9.3: each error at each place, by itself.
func TestCheckEach(t *testing.T) {
	base := parsed(t, baseText)
	wantTaken(t, base)
	for _, s := range spoilers(badNames) {
		d := grammar.Clone(base)
		s.spoil(&d)
		was := grammar.Clone(d)
		wantCheck(t, d, s.place, s.e)
		if !grammar.Same(d, was) {
			t.Errorf("Check has written to what was handed in: %+v", s)
		}
	}
}

// fewer leaves of spoilers that write to one field for one error at one place the first and the last one.
func fewer(l []spoiler) []spoiler {
	same := func(a, b spoiler) bool { return a.place == b.place && a.e == b.e && a.field == b.field }
	var few []spoiler
	for i, s := range l {
		if i == 0 || i == len(l)-1 || !same(s, l[i-1]) || !same(s, l[i+1]) {
			few = append(few, s)
		}
	}
	return few
}

// P9.3: of any two errors the one that the chapter names first is told, whichever was made first.
func TestCheckPairs(t *testing.T) {
	base := parsed(t, baseText)
	l := fewer(spoilers(badNames[:1]))
	pairs := 0
	for i, first := range l {
		for _, second := range l[i+1:] {
			if first.field == second.field {
				continue
			}
			pairs++
			d := grammar.Clone(base)
			if pairs%2 == 0 {
				first.spoil(&d)
				second.spoil(&d)
			} else {
				second.spoil(&d)
				first.spoil(&d)
			}
			wantCheck(t, d, first.place, first.e)
		}
	}
	if pairs < 10000 {
		t.Error("only so many pairs:", pairs)
	}
}

// P9.3: of many errors the first one is told.
func TestCheckMany(t *testing.T) {
	base := parsed(t, baseText)
	l := spoilers(badNames)
	r := rand.New(rand.NewSource(9))
	for range 3000 {
		d := grammar.Clone(base)
		first := len(l)
		fields := map[string]bool{}
		for range 2 + r.Intn(6) {
			n := r.Intn(len(l))
			if !fields[l[n].field] {
				fields[l[n].field] = true
				first = min(first, n)
				l[n].spoil(&d)
			}
		}
		wantCheck(t, d, l[first].place, l[first].e)
	}
}

// P9.3: what may just be, in each size.
func TestCheckLimits(t *testing.T) {
	steps := make([]api.Step, api.MaxSteps)
	d := api.Def{Name: strings.Repeat("n", api.MaxName)}
	d.Tables = many(api.MaxTables, func(i int) api.Table { return api.Table{Name: fresh(i), Steps: steps[i*4:]} })
	d.Root.Items = many(api.MaxItems, func(i int) api.Item { return field("a" + strconv.Itoa(i)) })
	d.Root.Kids = []api.Section{deep("d", api.MaxDepth-1)}
	for len(Flat(d)) < api.MaxSections {
		kid := section(fresh(len(d.Root.Kids)))
		kid.Items = many(api.MaxItems, func(i int) api.Item { return field("b" + strconv.Itoa(i)) })
		kid.Max = api.MaxRows
		d.Root.Kids = append(d.Root.Kids, kid)
	}
	d.Pages = many(api.MaxPages, func(i int) api.Page { return api.Page{Name: fresh(i)} })
	d.Pages[3].Items = many(api.MaxItems, func(i int) string { return "a" + strconv.Itoa(i) })
	wantTaken(t, d)
	spoil := func(place api.Place, change func(d *api.Def)) {
		t.Helper()
		c := grammar.Clone(d)
		change(&c)
		wantCheck(t, c, place, api.ErrSize)
	}
	spoil(api.Place{}, func(d *api.Def) {
		d.Tables = append(d.Tables, api.Table{Name: "more", Steps: steps})
	})
	spoil(api.Place{}, func(d *api.Def) { d.Root.Kids = append(d.Root.Kids, section("more")) })
	spoil(api.Place{}, func(d *api.Def) { d.Root.Kids = append(d.Root.Kids, make([]api.Section, 100)...) })
	spoil(api.Place{}, func(d *api.Def) { d.Root.Kids[0] = deep("d", api.MaxDepth); d.Root.Kids = d.Root.Kids[:1] })
	spoil(api.Place{}, func(d *api.Def) { d.Root.Kids[0] = deep("d", 40); d.Root.Kids = d.Root.Kids[:1] })
	spoil(api.Place{}, func(d *api.Def) { d.Root.Kids = append(d.Root.Kids[1:3], deep("d", api.MaxDepth)) })
	spoil(api.Place{}, func(d *api.Def) { d.Pages = append(d.Pages, api.Page{Name: "more"}) })
	spoil(atTable(0), func(d *api.Def) { d.Tables[0].Steps = append(d.Tables[0].Steps, api.Step{}) })
	spoil(atTable(7), func(d *api.Def) { d.Tables[7].Steps = []api.Step{} })
	spoil(atSection(0), func(d *api.Def) { d.Root.Items = append(d.Root.Items, field("more")) })
	spoil(atSection(15), func(d *api.Def) { s := partOf(d, 15); s.Items = append(s.Items, field("more")) })
	spoil(atSection(15), func(d *api.Def) { partOf(d, 15).Max++ })
	spoil(atSection(3), func(d *api.Def) { partOf(d, 3).Max-- })
	spoil(atPage(3), func(d *api.Def) { d.Pages[3].Items = append(d.Pages[3].Items, "d1") })
	few := grammar.Clone(d)
	few.Root.Kids, few.Tables, few.Pages = few.Root.Kids[:1], few.Tables[7:], nil
	few.Tables[0].Steps = steps[:1]
	wantTaken(t, few)
	d.Name += "n"
	wantCheck(t, d, api.Place{}, api.ErrNamed)
}

// The places of names that are held against each other, in the order in which Check comes by them; of sections with letters the items have these and digits.
var nameSpots = strings.Fields("def t1 t2 r1 r2 s s1 s2 u u1 u2 w w1 x x1 y y1 v v1 p1 p2")

// The pairs of these that may not have one name.
const mayNotMeet = ` t1-t2 p1-p2
	r1-r2 r1-s r1-s1 r1-s2 r1-u r1-u1 r1-u2 r1-w r1-w1 r1-x r1-x1 r1-y r1-y1 r1-v r1-v1
	r2-s r2-s1 r2-s2 r2-u r2-u1 r2-u2 r2-w r2-w1 r2-x r2-x1 r2-y r2-y1 r2-v r2-v1
	s-s1 s-s2 s-u s-u1 s-u2 s-w s-w1 s-x s-x1 s-y
	s1-s2 s1-u s1-u1 s1-u2 s1-w s1-w1 s1-x s1-x1 s2-u s2-u1 s2-u2 s2-w s2-w1 s2-x s2-x1
	u-u1 u-u2 u-w u-w1 u-x u1-u2 u1-w u1-w1 u2-w u2-w1 w-w1 x-x1
	y-y1 y-v y-v1 y1-v y1-v1 v-v1 `

// spotted is a definition whose names stand in the order of nameSpots, with items of some kinds.
func spotted(names []string, kind func() int) (api.Def, []api.Place) {
	places := []api.Place{{}, atTable(0), atTable(1), atItem(0, 0), atItem(0, 1), atSection(1), atItem(1, 0), atItem(1, 1),
		atSection(2), atItem(2, 0), atItem(2, 1), atSection(3), atItem(3, 0), atSection(4), atItem(4, 0),
		atSection(5), atItem(5, 0), atSection(6), atItem(6, 0), atPage(0), atPage(1)}
	d := sections(section("", section("", section("")), section("")), section("", section("")))
	d.Tables, d.Pages = make([]api.Table, 2), make([]api.Page, 2)
	for i, p := range places {
		name := names[i]
		switch p.Kind {
		case api.PlDef:
			d.Name = name
		case api.PlTable:
			d.Tables[p.Table] = api.Table{Name: name, Steps: make([]api.Step, 1)}
		case api.PlSection:
			partOf(&d, p.Section).Name = name
		case api.PlItem:
			s := partOf(&d, p.Section)
			s.Items = append(s.Items, api.Item{Name: name, Kind: kind()})
		case api.PlPage:
			d.Pages[p.Page].Name = name
		}
	}
	return d, places
}

// P9.3: any two names of a definition, in each way that may be and in each that may not, whatever kinds the items have.
func TestCheckMeet(t *testing.T) {
	r := rand.New(rand.NewSource(1))
	for i, first := range nameSpots {
		for j := i + 1; j < len(nameSpots); j++ {
			for range 20 {
				names := many(len(nameSpots), fresh)
				names[j] = names[i]
				d, places := spotted(names, func() int { return []int{api.ItField, api.ItLine, api.ItCheck, 0, 4, -1}[r.Intn(6)] })
				if strings.Contains(strings.ReplaceAll(mayNotMeet, "\n\t", " "), " "+first+"-"+nameSpots[j]+" ") {
					wantCheck(t, d, places[j], api.ErrTwice)
				} else {
					wantTaken(t, d)
				}
			}
		}
	}
}

// within is x under so many nodes, of all kinds, at different places among their Args.
func within(x api.Expr, levels int) api.Expr {
	rest := []api.Expr{{Kind: api.ExConst}, {}, {Kind: api.ExNot}}
	for n := range levels {
		outer := []api.Expr{{Kind: api.ExNeg}, {Kind: api.ExNot}, {Kind: api.ExOp, Op: api.OpAdd}, {Kind: api.ExIf}, {Kind: api.ExRound}, {Kind: api.ExBlank}, {Kind: api.ExConst},
			{Kind: 0}, {Kind: 11}, {Kind: -1}, reads("a"), column(api.AgRows, "k", "nobody"), column(api.AgSum, "k", "f"), {Kind: api.ExBracket, Name: "t"}}[n%14]
		outer.Args = slices.Insert(slices.Clone(rest[:n%4]), n%(n%4+1), x)
		x = outer
	}
	return x
}

// P9.3: what an expression reads is found, at the top and however deep, in lines, checks and pages' Whens.
func TestCheckReads(t *testing.T) {
	base := parsed(t, `return r { field a : flag ; line b : flag = a ; check c = b ;
		section k max 1 { field f : flag ; line g : flag = a ; check h = f ; section m max 1 { } }
		table t { from 0 base 0 rate 0 ; } page p { } }`)
	known := []api.Expr{{}, {Kind: api.ExConst}, {Kind: 99, Name: "nobody"}, {Kind: api.ExOp, Op: api.OpMul, Section: "nobody"},
		{Kind: api.ExConst, Value: api.Value{Kind: api.VText, Text: "nobody"}},
		reads("a"), reads("b"), {Kind: api.ExName, Name: "a", Section: "nobody", Op: api.AgRows}, {Kind: api.ExBracket, Name: "t"},
		column(api.AgRows, "k", ""), column(api.AgRows, "k", "f"), column(api.AgRows, "k", "nobody"), column(api.AgRows, "k", "h"),
		column(api.AgSum, "k", "f"), column(api.AgCount, "k", "g"), column(api.AgMin, "k", "g"), column(api.AgMax, "k", "f"), column(0, "k", "f"), column(-5, "k", "g")}
	unknown := []api.Expr{reads("nobody"), reads("c"), reads("f"), reads("k"), reads("t"), reads("p"), reads(""), reads("sum"), {Kind: api.ExBracket, Name: "a"}, {Kind: api.ExBracket},
		column(api.AgRows, "nobody", "f"), column(api.AgRows, "m", ""), column(api.AgRows, "", ""), column(api.AgSum, "k", "h"), column(api.AgCount, "k", "a"), column(api.AgMin, "k", ""),
		column(api.AgMax, "k", "m"), column(api.AgSum, "m", "f"), column(api.AgSum, "a", "a"), column(0, "k", "h"), column(11, "k", "nobody")}
	puts := map[api.Place]func(d *api.Def, x api.Expr){
		atItem(0, 1): func(d *api.Def, x api.Expr) { d.Root.Items[1].Expr = x },
		atItem(0, 2): func(d *api.Def, x api.Expr) { d.Root.Items[2].Expr = x },
		atItem(0, 3): func(d *api.Def, x api.Expr) {
			d.Root.Items = append(d.Root.Items, api.Item{Name: "odd", Kind: 7, Expr: x})
		},
		atPage(0): func(d *api.Def, x api.Expr) { d.Pages[0].When = x },
	}
	for place, put := range puts {
		for _, levels := range []int{0, 1, 2, 3, 5, 8, 9, 10, 14, 40} {
			for _, x := range known {
				d := grammar.Clone(base)
				put(&d, within(x, levels))
				wantTaken(t, d)
			}
			for _, x := range unknown {
				d := grammar.Clone(base)
				put(&d, within(x, levels))
				wantCheck(t, d, place, api.ErrUnknown)
			}
		}
	}
	for _, x := range unknown { // a field has no expression that would count
		d := grammar.Clone(base)
		d.Root.Items[0].Expr = within(x, 3)
		wantTaken(t, d)
	}
}

// P9.3, R1: expressions as deep as the program goes, and ones with many Args.
func TestCheckGreat(t *testing.T) {
	d := sections()
	d.Root.Items = []api.Item{field("a"), line("b", api.Expr{})}
	for name, want := range map[string]api.Errno{"a": api.OK, "c": api.ErrUnknown} {
		place := api.Place{}
		if want != api.OK {
			place = atItem(0, 1)
		}
		x := reads(name)
		for range 1<<16 - 8 {
			x = api.Expr{Kind: api.ExNeg, Args: []api.Expr{x}}
		}
		d.Root.Items[1].Expr = x
		if p, e := Check(d); p != place || e != want {
			t.Errorf("deep: %v, %d", p, e)
		}
		if l := Flat(d); !grammar.SameExpr(l[0].Items[1].Expr, x) {
			t.Error("deep: Flat tells another expression")
		}
		args := append(many(1<<17, func(int) api.Expr { return reads("a") }), reads(name))
		d.Root.Items[1].Expr = api.Expr{Kind: api.ExIf, Args: args}
		if p, e := Check(d); p != place || e != want {
			t.Errorf("wide: %v, %d", p, e)
		}
	}
}

// P9.3: what stands on pages: fields and kids of the root, each once; not by the order of unknown ones and those that are there twice, but one by one.
func TestCheckPageItems(t *testing.T) {
	base := parsed(t, `return r { field a : flag ; field b : flag ; line c : flag = a ; check d = a ;
		section s max 1 { field e : flag ; section u max 1 { } } section v max 1 { }
		table t { from 0 base 0 rate 0 ; } page p { } page q { } }`)
	base.Root.Items = append(base.Root.Items, api.Item{Name: "odd"}, api.Item{Name: "odder", Kind: 4})
	for lists, want := range map[string]struct {
		page int
		e    api.Errno
	}{
		"|": {}, "a|": {}, "|a": {}, "a b s v|": {}, "v a|s b": {}, "s|v": {},
		"c|": {0, api.ErrUnknown}, "d|": {0, api.ErrUnknown}, "odd|": {0, api.ErrUnknown}, "odder|": {0, api.ErrUnknown}, "e|": {0, api.ErrUnknown}, "u|": {0, api.ErrUnknown},
		"t|": {0, api.ErrUnknown}, "p|": {0, api.ErrUnknown}, "q|": {0, api.ErrUnknown}, "r|": {0, api.ErrUnknown}, "x|": {0, api.ErrUnknown},
		"a|c": {1, api.ErrUnknown}, "a c|": {0, api.ErrUnknown}, "a|b x": {1, api.ErrUnknown},
		"a a|": {0, api.ErrTwice}, "s a s|": {0, api.ErrTwice}, "a|a": {1, api.ErrTwice}, "a s|b s": {1, api.ErrTwice}, "a b|v s b": {1, api.ErrTwice},
		"a a x|": {0, api.ErrTwice}, "a x a|": {0, api.ErrUnknown}, "x x|": {0, api.ErrUnknown}, "a|x a": {1, api.ErrUnknown}, "a|a x": {1, api.ErrTwice},
	} {
		one, two, _ := strings.Cut(lists, "|")
		d := grammar.Clone(base)
		d.Pages[0].Items, d.Pages[1].Items = strings.Fields(one), strings.Fields(two)
		place := api.Place{}
		if want.e != api.OK {
			place = atPage(want.page)
		}
		wantCheck(t, d, place, want.e)
	}
}

// R4: empty and nil lists are the same.
func TestEmptyLists(t *testing.T) {
	full := api.Def{Name: "r", Tables: []api.Table{}, Pages: []api.Page{{Name: "p", When: api.Expr{Args: []api.Expr{}}, Items: []string{}}},
		Root: api.Section{Items: []api.Item{line("a", api.Expr{Kind: api.ExName, Name: "a", Args: []api.Expr{}})}, Kids: []api.Section{{Name: "s", Max: 1, Items: []api.Item{}, Kids: []api.Section{}}}}}
	wantTaken(t, full)
	wantTaken(t, grammar.Clone(full))
	a, b := Flat(full), Flat(grammar.Clone(full))
	if !reflect.DeepEqual(a, b) {
		t.Errorf("Flat tells %+v and %+v", a, b)
	}
	full.Tables = []api.Table{{Name: "t", Steps: []api.Step{}}}
	wantCheck(t, full, atTable(0), api.ErrSize)
	full.Tables[0].Steps = nil
	wantCheck(t, full, atTable(0), api.ErrSize)
}
