package scope

import (
	"math"
	"reflect"
	"slices"
	"strconv"
	"strings"
	"testing"
	"time"

	"excise/api"
	"excise/grammar"
	"excise/lex"
)

// parsed is the definition of a text.
func parsed(t *testing.T, text string) api.Def {
	t.Helper()
	d, at, e := grammar.Parse(text)
	if e != api.OK {
		t.Fatalf("%q: %d at %d", text, e, at)
	}
	return d
}

func field(name string) api.Item { return api.Item{Name: name, Kind: api.ItField} }

func line(name string, x api.Expr) api.Item { return api.Item{Name: name, Kind: api.ItLine, Expr: x} }

func check(name string, x api.Expr) api.Item {
	return api.Item{Name: name, Kind: api.ItCheck, Expr: x}
}

func reads(name string) api.Expr { return api.Expr{Kind: api.ExName, Name: name} }

func column(op int, section, name string) api.Expr {
	return api.Expr{Kind: api.ExAgg, Op: op, Section: section, Name: name}
}

func sections(kids ...api.Section) api.Def {
	return api.Def{Name: "r", Root: api.Section{Kids: kids}}
}

func section(name string, kids ...api.Section) api.Section {
	return api.Section{Name: name, Max: 1, Kids: kids}
}

// deep is a section with others within it, so many in all.
func deep(name string, many int) api.Section {
	s := section(name + strconv.Itoa(many))
	for many--; many > 0; many-- {
		s = section(name+strconv.Itoa(many), s)
	}
	return s
}

// The reserved words, in the document's order.
const reserved = "return, field, line, check, section, table, page, when, max, from, base, rate, needed, amount, flag, text, if, round, blank, rows, sum, count, min, and, or, not, true, false, half_up, half_even, down, up, floor"

// The words' order, each being reserved and nobody's name, and that they are told anew each time.
func TestWords(t *testing.T) {
	want := strings.Split(reserved, ", ")
	l := Words()
	if !slices.Equal(l, want) || len(l) != 33 {
		t.Fatalf("Words() is %q", l)
	}
	for i, word := range want {
		if !Reserved(word) {
			t.Errorf("Reserved(%q) is false", word)
		}
		if p, e := Check(api.Def{Name: word}); e != api.ErrNamed || p != (api.Place{}) {
			t.Errorf("a definition named %q: %v, %d", word, p, e)
		}
		if _, _, e := grammar.Parse("return " + word + " { }"); e != api.ErrSyntax {
			t.Errorf("%q is a name in texts: %d", word, e)
		}
		l[i] = "spoilt"
	}
	if !slices.Equal(Words(), want) || !Reserved("return") || Reserved("spoilt") {
		t.Error("Words' answer is not its owner's alone")
	}
}

// What only looks like a reserved word is none, and may be a name, if it is one.
func TestNotReserved(t *testing.T) {
	words := strings.Split(reserved, ", ")
	for _, word := range words {
		for _, s := range []string{word + "s", word + "_", word + "0", "_" + word, "x" + word, strings.ToUpper(word),
			strings.ToUpper(word[:1]) + word[1:], word[1:], word[:len(word)-1], word + " ", " " + word, word + "\x00", word + word} {
			if slices.Contains(words, s) {
				continue
			}
			if Reserved(s) {
				t.Errorf("Reserved(%q)", s)
			}
			if _, e := Check(api.Def{Name: s}); (e == api.OK) != lex.Name(s) || e != api.OK && e != api.ErrNamed {
				t.Errorf("a definition named %q: %d", s, e)
			}
		}
	}
	for _, s := range []string{"", "x", "avg", "else", "half", "half_down", "ceil", "return field", ",", "0"} {
		if Reserved(s) {
			t.Errorf("Reserved(%q)", s)
		}
	}
}

// sect is a section as Flat tells it, without items.
func sect(parent, depth int, name string) api.Sect {
	return api.Sect{Parent: parent, Depth: depth, Name: name, Max: 1}
}

func wantFlat(t *testing.T, d api.Def, want ...api.Sect) {
	t.Helper()
	if l := Flat(d); !reflect.DeepEqual(l, want) {
		t.Errorf("Flat(%+v)\n is %+v\nnot %+v", d, l, want)
	}
}

// P9.1: sections none, one and many, beside one another and within one another; their fields as they stand there, right or wrong.
func TestFlat(t *testing.T) {
	root := api.Sect{Parent: -1, Depth: 1}
	wantFlat(t, api.Def{}, root)
	wantFlat(t, sections(), root)
	wantFlat(t, sections(section("a")), root, sect(0, 2, "a"))
	wantFlat(t, sections(section("a"), section("b"), section("a")), root, sect(0, 2, "a"), sect(0, 2, "b"), sect(0, 2, "a"))
	wantFlat(t, sections(section("a", section("b", section("c"))), section("d")),
		root, sect(0, 2, "a"), sect(1, 3, "b"), sect(2, 4, "c"), sect(0, 2, "d"))
	wantFlat(t, sections(section("a"), section("b", section("c"), section("d", section("e")), section("f")), section("g", section("h"))),
		root, sect(0, 2, "a"), sect(0, 2, "b"), sect(2, 3, "c"), sect(2, 3, "d"), sect(4, 4, "e"), sect(2, 3, "f"), sect(0, 2, "g"), sect(7, 3, "h"))
	x := api.Expr{Kind: 77, Op: -1, Args: []api.Expr{reads("x"), {Kind: api.ExNeg, Args: []api.Expr{reads("y")}}}}
	items := []api.Item{{Name: "sum", Kind: 9, Type: api.Type{Kind: 3, Scale: -2}, Need: true, Policy: 8, Expr: x}, field("")}
	d := api.Def{Root: api.Section{Name: "top", Max: -3, Items: items[:1], Kids: []api.Section{{Name: "if", Max: 1 << 40, Items: items}, {}}}}
	wantFlat(t, d, api.Sect{Parent: -1, Depth: 1, Name: "top", Max: -3, Items: items[:1]},
		api.Sect{Parent: 0, Depth: 2, Name: "if", Max: 1 << 40, Items: items}, api.Sect{Parent: 0, Depth: 2})
}

// P9.1: sections are told as far as 16 deep; what is below is left out, what is behind and less deep is not.
func TestFlatDeep(t *testing.T) {
	for many := 1; many <= 20; many++ {
		d := sections(deep("a", many), section("b"))
		want := []api.Sect{{Parent: -1, Depth: 1}}
		for n := 1; n <= min(many, 15); n++ {
			want = append(want, sect(n-1, n+1, "a"+strconv.Itoa(n)))
		}
		wantFlat(t, d, append(want, sect(0, 2, "b"))...)
	}
	wide := section("x")
	for range 100 {
		wide.Kids = append(wide.Kids, section("y"))
	}
	s := section("z", wide, section("w"))
	for range 13 {
		s = section("v", s)
	}
	l := Flat(sections(s, section("u")))
	names := ""
	for _, s := range l {
		names += s.Name
	}
	if names != strings.Repeat("v", 13)+"zxwu" {
		t.Errorf("a hundred sections that are too deep: %q", names)
	}
}

// P9.1: at most 64 sections are told, the first ones, of those that are not too deep.
func TestFlatMany(t *testing.T) {
	for _, many := range []int{62, 63, 64, 65, 1000} {
		var beside, within []api.Section
		for n := range many {
			beside = append(beside, section("b"+strconv.Itoa(n+1)))
			within = append(within, section("w", section("k")))
		}
		l := Flat(sections(beside...))
		if len(l) != min(many+1, 64) {
			t.Fatalf("%d sections: %d told", many+1, len(l))
		}
		for n := 1; n < len(l); n++ {
			if want := sect(0, 2, "b"+strconv.Itoa(n)); !reflect.DeepEqual(l[n], want) {
				t.Errorf("%d: %+v", n, l[n])
			}
		}
		l = Flat(sections(within...))
		if len(l) != 64 || l[63].Name != "w" || l[62].Name != "k" || l[62].Parent != 61 {
			t.Errorf("%d times two: %d told, %+v", many, len(l), l[62:])
		}
	}
	// The 30 sections that are too deep do not count.
	d := sections(deep("a", 45))
	for range 48 {
		d.Root.Kids = append(d.Root.Kids, section("b"))
	}
	l := Flat(d)
	if len(l) != 64 || l[15].Name != "a15" || l[16].Name != "b" || l[63].Name != "b" {
		t.Errorf("too deep and too many: %d told, %+v", len(l), l)
	}
}

// P9.1, R3: Flat's answer is its owner's alone, and does not go with what was handed in.
func TestFlatOwn(t *testing.T) {
	text := "return r { field a : flag ; line b : flag = not ( a or not a ) ; section s max 1 { check c = if ( a , b , not b ) ; } }"
	d, want := parsed(t, text), Flat(parsed(t, text))
	l := Flat(d)
	var spoil func(l []api.Expr)
	spoil = func(l []api.Expr) {
		for i := range l {
			l[i].Name = "spoilt"
			spoil(l[i].Args)
		}
	}
	spoilItems := func(l []api.Item) {
		for i := range l {
			l[i].Name = "spoilt"
			spoil(l[i].Expr.Args)
		}
		_ = append(l, field("spoilt"))
	}
	for n := range l {
		l[n].Name = "spoilt"
		spoilItems(l[n].Items)
	}
	if !grammar.Same(d, parsed(t, text)) {
		t.Error("what Flat told is the definition's memory")
	}
	l = Flat(d)
	spoilItems(d.Root.Items)
	spoilItems(d.Root.Kids[0].Items)
	if !reflect.DeepEqual(l, want) {
		t.Error("the definition's memory is what Flat told")
	}
	one := []api.Item{line("a", api.Expr{Kind: api.ExNot, Args: []api.Expr{reads("b")}})}
	l = Flat(api.Def{Root: api.Section{Items: one, Kids: []api.Section{{Items: one}}}})
	spoilItems(l[0].Items)
	if !reflect.DeepEqual(l[1].Items, one) {
		t.Error("two lists of one answer share memory")
	}
}

// P9.1: the numbers of sections are those by which grammar tells where their names stand.
func TestFlatSpots(t *testing.T) {
	text := "return r { section a max 1 { field b : flag ; section c max 1 { } } field d : flag ; section e max 1 { section f max 1 { field g : flag ; } } }"
	l := Flat(parsed(t, text))
	spots, e := grammar.Spots(text)
	if e != api.OK {
		t.Fatal(e)
	}
	for _, s := range spots {
		name := ""
		switch s.Place.Kind {
		case api.PlSection:
			name = l[s.Place.Section].Name
		case api.PlItem:
			name = l[s.Place.Section].Items[s.Place.Item].Name
		}
		if !strings.HasPrefix(text[s.At:], name) {
			t.Errorf("%+v: %q", s, name)
		}
	}
}

// P9.1: kids of sections, of numbers that are no section's, and of raw lists.
func TestKids(t *testing.T) {
	l := Flat(sections(section("a", section("b"), section("c", section("b")), section("b")), section("d"), section("a")))
	raw := []api.Sect{{Parent: 0, Name: "a"}, {Parent: 2, Name: "b"}, {Parent: 1, Name: "c"}, {Parent: 99, Name: "d"}, {Parent: -7, Name: "e"}, {Parent: 0, Name: "a"}, {Parent: 0, Name: "f"}}
	for _, x := range []struct {
		l       []api.Sect
		section int
		want    []int
	}{
		{l, 0, []int{1, 6, 7}}, {l, 1, []int{2, 3, 5}}, {l, 2, nil}, {l, 3, []int{4}}, {l, 4, nil}, {l, 6, nil}, {l, 7, nil},
		{l, 8, nil}, {l, math.MaxInt, nil}, {l, math.MinInt, nil}, {l, -2, nil}, {l, -1, []int{0}},
		{raw, 0, []int{0, 5, 6}}, {raw, 1, []int{2}}, {raw, 2, []int{1}}, {raw, 3, nil}, {raw, 99, []int{3}}, {raw, -7, []int{4}}, {raw, -1, nil},
		{nil, 0, nil}, {nil, -1, nil}, {[]api.Sect{}, 0, nil}, {[]api.Sect{{}}, 0, []int{0}},
	} {
		got := Kids(x.l, x.section)
		if !slices.Equal(got, x.want) {
			t.Errorf("Kids(.., %d) is %v, not %v", x.section, got, x.want)
		}
		for _, name := range []string{"a", "b", "c", "d", "e", "f", "", "A", "ab"} {
			first := slices.IndexFunc(x.want, func(n int) bool { return x.l[n].Name == name })
			k, ok := Kid(x.l, x.section, name)
			if ok != (first >= 0) || ok && k != x.want[first] || !ok && k != 0 {
				t.Errorf("Kid(.., %d, %q) is %d, %t", x.section, name, k, ok)
			}
		}
		for i := range got {
			got[i] = -1
		}
		if !slices.Equal(Kids(x.l, x.section), x.want) {
			t.Error("Kids' answer is not its owner's alone")
		}
	}
}

func wantFound(t *testing.T, l []api.Sect, section int, name string, atSection, atItem int, found bool) {
	t.Helper()
	if s, i, ok := Find(l, section, name); s != atSection || i != atItem || ok != found {
		t.Errorf("Find(.., %d, %q) is %d, %d, %t, not %d, %d, %t", section, name, s, i, ok, atSection, atItem, found)
	}
}

func wantNothing(t *testing.T, l []api.Sect, section int, name string) {
	t.Helper()
	wantFound(t, l, section, name, 0, 0, false)
}

// P9.2: an item of the section itself, of its parent, and of one farther out; none of a section within or beside it; no check, and nothing where there is no section.
func TestFind(t *testing.T) {
	l := Flat(parsed(t, `return r { field a : flag ; line b : flag = a ; check c = a ;
		section s max 1 { field d : flag ; line e : flag = a ; check f = a ;
			section u max 1 { check g = a ; line h : flag = a ; section w max 1 { field i : flag ; } } }
		section v max 1 { field j : flag ; } }`))
	where := map[string][2]int{"a": {0, 0}, "b": {0, 1}, "d": {1, 0}, "e": {1, 1}, "h": {2, 1}, "i": {3, 0}, "j": {4, 0}}
	around := [][]int{{0}, {1, 0}, {2, 1, 0}, {3, 2, 1, 0}, {4, 0}}
	for _, name := range []string{"a", "b", "c", "d", "e", "f", "g", "h", "i", "j", "r", "s", "u", "v", "w", "", "A", "aa"} {
		for section := range l {
			at, ok := where[name]
			if ok && slices.Contains(around[section], at[0]) {
				wantFound(t, l, section, name, at[0], at[1], true)
			} else {
				wantNothing(t, l, section, name)
			}
		}
		for _, section := range []int{-1, -2, 5, 6, math.MaxInt, math.MinInt} {
			wantNothing(t, l, section, name)
		}
		wantNothing(t, nil, 0, name)
		wantNothing(t, []api.Sect{}, -1, name)
	}
}

// P9.2: of a name that is there twice the first item, but the nearest section's; what can't be read is passed over.
func TestFindTwice(t *testing.T) {
	odd := func(kind int) api.Item { return api.Item{Name: "a", Kind: kind} }
	l := []api.Sect{
		{Parent: -1, Items: []api.Item{odd(api.ItCheck), odd(0), field("b"), odd(4), odd(-1), odd(api.ItLine), odd(api.ItField)}},
		{Parent: 0, Items: []api.Item{odd(api.ItCheck), field("b"), line("b", reads("x"))}},
		{Parent: 1, Items: []api.Item{field("c"), odd(api.ItField), odd(api.ItLine)}},
		{Parent: 0, Items: []api.Item{field(""), odd(math.MaxInt)}},
	}
	wantFound(t, l, 0, "a", 0, 5, true)
	wantFound(t, l, 1, "a", 0, 5, true)
	wantFound(t, l, 2, "a", 2, 1, true)
	wantFound(t, l, 3, "a", 0, 5, true)
	wantFound(t, l, 0, "b", 0, 2, true)
	wantFound(t, l, 1, "b", 1, 1, true)
	wantFound(t, l, 2, "b", 1, 1, true)
	wantFound(t, l, 3, "b", 0, 2, true)
	wantFound(t, l, 3, "", 3, 0, true)
	wantNothing(t, l, 2, "")
}

// P9.2: raw lists, whose parents are none, come behind their kids, or go in a circle.
func TestFindRaw(t *testing.T) {
	a, b := []api.Item{field("a")}, []api.Item{field("b")}
	for _, wrong := range []int{-1, -2, 3, 99, math.MaxInt, math.MinInt} {
		l := []api.Sect{{Parent: wrong, Items: a}, {Parent: wrong, Items: b}, {Parent: 1}}
		wantFound(t, l, 0, "a", 0, 0, true)
		wantNothing(t, l, 0, "b")
		wantFound(t, l, 2, "b", 1, 0, true)
		wantNothing(t, l, 2, "a")
	}
	behind := []api.Sect{{Parent: 2}, {Parent: -1, Items: a}, {Parent: 1, Items: b}}
	wantFound(t, behind, 0, "a", 1, 0, true)
	wantFound(t, behind, 0, "b", 2, 0, true)
	self := []api.Sect{{Parent: 0, Items: a}, {Parent: 0}}
	wantFound(t, self, 1, "a", 0, 0, true)
	wantNothing(t, self, 1, "b")
	for many := 1; many <= 6; many++ {
		for at := range many {
			round := make([]api.Sect, many)
			for n := range round {
				round[n].Parent = (n + 1) % many
			}
			round[at].Items = a
			for n := range round {
				wantFound(t, round, n, "a", at, 0, true)
				wantNothing(t, round, n, "b")
			}
		}
	}
}

// P9.2 and the bound: a section in a circle with itself is not asked as often as there are sections.
func TestFindCircleOnce(t *testing.T) {
	l := make([]api.Sect, 1<<17)
	l[0].Items = make([]api.Item, 1<<17)
	began := time.Now()
	wantNothing(t, l, 1, "a")
	if took := time.Since(began); took > 3*time.Second {
		t.Error("it took", took)
	}
}

// P9.2: a table by its name, with none, one and two of it.
func TestTable(t *testing.T) {
	d := api.Def{Name: "r", Tables: []api.Table{{Name: "t"}, {Name: "u"}, {Name: "t"}, {Name: ""}, {Name: "u"}}}
	for name, want := range map[string]int{"t": 0, "u": 1, "": 3} {
		if n, ok := Table(d, name); n != want || !ok {
			t.Errorf("Table(.., %q) is %d, %t", name, n, ok)
		}
	}
	for _, name := range []string{"r", "T", "tt", "v"} {
		if n, ok := Table(d, name); n != 0 || ok {
			t.Errorf("Table(.., %q) is %d, %t", name, n, ok)
		}
	}
	for _, none := range []api.Def{{}, {Tables: []api.Table{}}, {Name: "t", Root: api.Section{Items: []api.Item{field("t")}, Kids: []api.Section{{Name: "t"}}}, Pages: []api.Page{{Name: "t"}}}} {
		if n, ok := Table(none, "t"); n != 0 || ok {
			t.Errorf("Table(%+v) is %d, %t", none, n, ok)
		}
	}
}
