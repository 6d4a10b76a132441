package schema

import (
	"slices"
	"strconv"
	"strings"
	"testing"

	"excise/api"
	"excise/grammar"
	"excise/lex"
	"excise/ranks"
)

func atItem(section, item int) api.Place {
	return api.Place{Kind: api.PlItem, Section: section, Item: item}
}

func atSection(n int) api.Place { return api.Place{Kind: api.PlSection, Section: n} }

func atTable(n int) api.Place { return api.Place{Kind: api.PlTable, Table: n} }

func atPage(n int) api.Place { return api.Place{Kind: api.PlPage, Page: n} }

// marked are a text's words, and which of them has a mark (@) ahead of it, that is taken off. A mark alone is behind all words; without a mark it is none, -1.
func marked(text string) ([]string, int) {
	words, at := strings.Fields(text), -1
	for i, word := range words {
		if rest, ok := strings.CutPrefix(word, "@"); ok {
			words[i], at = rest, i
		}
	}
	if at >= 0 && words[at] == "" {
		words = words[:at]
	}
	return words, at
}

// spread is a text of words with blanks between them, and where the word of a number stands there: the text's length, if that is behind all of them, 0 of none. The first blank is ahead of the words.
func spread(words []string, number int, blank func(i int) string) (string, int) {
	var text strings.Builder
	at := 0
	for i, word := range words {
		text.WriteString(blank(i))
		if i == number {
			at = text.Len()
		}
		text.WriteString(word)
	}
	text.WriteString(blank(len(words)))
	if number == len(words) {
		at = text.Len()
	}
	return text.String(), at
}

// glued tells whether a word and the one ahead of it would be one without a blank between them.
func glued(words []string, i int) bool {
	return i > 0 && i < len(words) && lex.Name("_"+words[i-1][len(words[i-1])-1:]+words[i][:1])
}

// blankings are ways to put blanks ahead of, between and behind words: one 32, the fewest that there must be, and many of all kinds, with comments.
func blankings(words []string) []func(i int) string {
	inside := func(i int) bool { return i > 0 && i < len(words) }
	choose := func(is bool, blank string) string {
		if is {
			return blank
		}
		return ""
	}
	odd := []string{"  ", "\n", "\t\r\n", "// a\n", " //\n//return r { } \" # @\n\t", "\r"}
	return []func(i int) string{
		func(i int) string { return choose(inside(i), " ") },
		func(i int) string { return choose(glued(words, i), " ") },
		func(i int) string { return odd[i%len(odd)] },
		func(i int) string {
			return odd[(i*i+3)%len(odd)] + odd[(i+5)%len(odd)] + choose(i == len(words), "// the end }")
		},
	}
}

func wantRefused(t *testing.T, text string, at int, want api.Errno) {
	t.Helper()
	if s, place, e := New(text); s != nil || place != at || e != want {
		t.Errorf("New(%.2000q) is %v, %d, %d, not %d, %d", text, s, place, e, at, want)
	}
}

func wantRefusedOf(t *testing.T, d api.Def, place api.Place, want api.Errno) {
	t.Helper()
	if s, p, e := Of(d); s != nil || p != place || e != want {
		t.Errorf("Of is %v, %+v, %d, not %+v, %d, of %.2000v", s, p, e, place, want, d)
	}
}

// wantRefusedAt: a text with a mark is refused there, whatever blanks it has.
func wantRefusedAt(t *testing.T, text string, want api.Errno) {
	t.Helper()
	words, number := marked(text)
	for _, blank := range blankings(words) {
		spreadText, at := spread(words, number, blank)
		wantRefused(t, spreadText, at, want)
	}
}

func parsed(t *testing.T, text string) api.Def {
	t.Helper()
	d, at, e := grammar.Parse(text)
	if e != api.OK {
		t.Fatalf("%.2000q: %d at %d", text, e, at)
	}
	return d
}

// P12.1: the chapter's example, and what is accepted beside it.
func TestExamples(t *testing.T) {
	wantRefused(t, "return r { line a : amount 0 up = b ; line b : amount 0 up = a ; }", 16, api.ErrCycle)
	for _, text := range []string{
		"return r { }",
		"return r { line a : amount 0 up = b ; line b : amount 0 up = 1 ; }",
		"return r { field a : amount 2 needed ; line t : amount 2 half_up = a * 0.25 ; check c = t > 0 ; }",
		"return r { field on : flag ; section k max 3 { field b : amount 2 ; } line s : amount 2 up = sum ( k . b ) ; page p when on { k } page q { on } }",
	} {
		s, at, e := New(text)
		if s == nil || at != 0 || e != api.OK {
			t.Errorf("New(%q) is %v, %d, %d", text, s, at, e)
			continue
		}
		hold(t, s, parsed(t, text))
		of, place, e := Of(parsed(t, text))
		if of == nil || place != (api.Place{}) || e != api.OK {
			t.Errorf("Of(%q) is %v, %v, %d", text, of, place, e)
			continue
		}
		hold(t, of, parsed(t, text))
	}
}

// P12.1: what is no word and what is no definition, at the place that grammar.Parse tells.
func TestNoDefinition(t *testing.T) {
	long := strings.Repeat("a", api.MaxName+1)
	for text, want := range map[string]api.Errno{
		"@#":                                   api.ErrWord,
		"return r { } @?":                      api.ErrWord,
		"return @" + long + " { }":             api.ErrWord,
		"return r { field @" + long + " : x }": api.ErrWord,
		"return r { field a : text ; check c = a = @\"\\q\" ; }":                                        api.ErrWord,
		"return r { field a : text ; check c = a = @\"" + strings.Repeat("b", api.MaxText+1) + "\" ; }": api.ErrWord,
		"return r { check c = 0 < @" + strings.Repeat("9", 78) + " ; }":                                 api.ErrWord,
		"@":                                  api.ErrSyntax,
		"return @":                           api.ErrSyntax,
		"return r @":                         api.ErrSyntax,
		"return r { field a : flag ; @":      api.ErrSyntax,
		"@retur r { }":                       api.ErrSyntax,
		"@{ }":                               api.ErrSyntax,
		"return r { } @return r { }":         api.ErrSyntax,
		"return @field { }":                  api.ErrSyntax,
		"return r { field @sum : flag ; }":   api.ErrSyntax,
		"return r { field a : @number ; }":   api.ErrSyntax,
		"return r { line @up : flag = a ; }": api.ErrSyntax,
		"return r { line a : flag @up = true ; }":                                      api.ErrSyntax,
		"return r { line a : amount 0 @= 1 ; }":                                        api.ErrSyntax,
		"return r { check @and = true ; }":                                             api.ErrSyntax,
		"return r { check c = @needed ; }":                                             api.ErrSyntax,
		"return r { check c = sum ( k @) ; }":                                          api.ErrSyntax,
		"return r { section @max max 1 { } }":                                          api.ErrSyntax,
		"return r { section s max @1.0 { } }":                                          api.ErrSyntax,
		"return r { section s max @1073741825 { } }":                                   api.ErrSyntax,
		"return r { section s max @- 1 { } }":                                          api.ErrSyntax,
		"return r { section s max 1 { section u max 1 { field @if : flag ; } } }":      api.ErrSyntax,
		"return r { section s max 1 { @table x { from 0 base 0 rate 0 ; } } }":         api.ErrSyntax,
		"return r { section s max 1 { @page p { } } }":                                 api.ErrSyntax,
		"return r { table @rate { from 0 base 0 rate 0 ; } }":                          api.ErrSyntax,
		"return r { table x { @} }":                                                    api.ErrSyntax,
		"return r { page @when { } }":                                                  api.ErrSyntax,
		"return r { page p { @text } }":                                                api.ErrSyntax,
		"return r { field a : flag ; page p { a , @} }":                                api.ErrSyntax,
		"return r { line a : amount 0 up = a ; line b : amount 0 up = @) }":            api.ErrSyntax,
		"return r { field a : flag ; field a : flag ; section s max 0 { } @; page p }": api.ErrSyntax,
	} {
		wantRefusedAt(t, text, want)
	}
}

// steps is a table of so many steps that may be.
func steps(name string, many int) string {
	text := "table " + name + " {"
	for n := range many {
		text += " from " + strconv.Itoa(n) + " base 0 rate 0 ;"
	}
	return text + " }"
}

// several is a text so often, with numbers 0, 1, .. in place of its #.
func several(many int, text string) string {
	var l []string
	for n := range many {
		l = append(l, strings.ReplaceAll(text, "#", strconv.Itoa(n)))
	}
	return strings.Join(l, " ")
}

// within puts a text into sections, one within the other, s1 the outermost.
func within(depth int, text string) string {
	for n := depth; n > 0; n-- {
		text = "section s" + strconv.Itoa(n) + " max 1 { " + text + " }"
	}
	return text
}

// A fault is what stands in a definition's root, with a mark at the name of the place that is told, or, if it is the definition's, without one; and what is told.
type fault struct {
	text  string
	place api.Place
	e     api.Errno
}

func scopeFaults() []fault {
	const dull = "section d max 1 { section f max 2 { } } "
	return []fault{
		{steps("a", 1) + several(api.MaxTables, " table t# { from 0 base 0 rate 0 ; }"), api.Place{}, api.ErrSize},
		{several(api.MaxSections, "section s# max 1 { }"), api.Place{}, api.ErrSize},
		{several(api.MaxPages+1, "page p# { }"), api.Place{}, api.ErrSize},
		{within(api.MaxDepth, ""), api.Place{}, api.ErrSize},
		{within(4*api.MaxDepth+2, "field a : flag ;"), api.Place{}, api.ErrSize},
		{steps("a", 1) + steps(" b", 2) + steps(" @a", 1), atTable(2), api.ErrTwice},
		{steps("a", 1) + steps(" @b", api.MaxSteps+1), atTable(1), api.ErrSize},

		{"field a : flag ; check b = a ; line @a : flag = true ;", atItem(0, 2), api.ErrTwice},
		{"check b = true ; check c = true ; check @b = true ;", atItem(0, 2), api.ErrTwice},
		{"field a : flag ; section @a max 1 { }", atSection(1), api.ErrTwice},
		{dull + "section @d max 1 { }", atSection(3), api.ErrTwice},
		{dull + "section a max 1 { section b max 1 { section @a max 1 { } } }", atSection(5), api.ErrTwice},
		{dull + "section @a max 0 { }", atSection(3), api.ErrSize},
		{dull + within(2, "section @a max 1025 { }"), atSection(5), api.ErrSize},
		{dull + within(2, "section @a max 1 { "+several(api.MaxItems+1, "field a# : flag ;")+" }"), atSection(5), api.ErrSize},
		{dull + within(3, "field a : flag ; field @a : flag ;"), atItem(5, 1), api.ErrTwice},
		{dull + within(3, "field a : flag ; line @s2 : flag = true ;"), atItem(5, 1), api.ErrTwice},
		{"line b : flag = true ; " + within(3, "field a : flag ; check @b = true ;"), atItem(3, 1), api.ErrTwice},

		{"check b = true ; line @a : amount 0 up = nobody ;", atItem(0, 1), api.ErrUnknown},
		{"check b = true ; check @a = b ;", atItem(0, 1), api.ErrUnknown},
		{dull + "line @a : amount 0 up = rows ( f ) ;", atItem(0, 0), api.ErrUnknown},
		{dull + "line @a : amount 0 up = sum ( d . f ) ;", atItem(0, 0), api.ErrUnknown},
		{"line @a : amount 0 up = 1 + round ( nobody ( 1 ) , 0 , up ) ;", atItem(0, 0), api.ErrUnknown},
		{within(3, "field a : flag ; check @b = a and nobody ;") + " " + dull, atItem(3, 1), api.ErrUnknown},
		{dull + within(3, "check @b = nobody ;"), atItem(5, 0), api.ErrUnknown},

		{"field a : flag ; page p { } page q { a } page @p { }", atPage(2), api.ErrTwice},
		{"page p { } page @q { " + strings.Repeat("a , ", api.MaxItems) + "a }", atPage(1), api.ErrSize},
		{"page p { } page @q when nobody { }", atPage(1), api.ErrUnknown},
		{"line a : flag = true ; page p { } page @q when a { a }", atPage(1), api.ErrUnknown},
		{dull + "page p { d } page @q { d }", atPage(1), api.ErrTwice},
		{dull + "page @p { d , f }", atPage(0), api.ErrUnknown},
	}
}

func typeFaults() []fault {
	sum := strings.Repeat("1 + ", api.MaxNodes/2)
	return []fault{
		{"table a { from - 1 base 0 rate 0 ; from 0 base 0 rate 0 ; } table @b { from 1 base 0 rate 0 ; from 1.0 base 0 rate 0 ; }", atTable(1), api.ErrKind},
		{"field b : amount 18 ; field @a : amount 19 ;", atItem(0, 1), api.ErrKind},
		{"line @a : amount 19 up = 1 ;", atItem(0, 0), api.ErrKind},
		{"field b : flag ; line @a : amount 0 up = b ;", atItem(0, 1), api.ErrKind},
		{"line @a : flag = 1 ;", atItem(0, 0), api.ErrKind},
		{"line @a : text = true ;", atItem(0, 0), api.ErrKind},
		{"field b : text ; check c = b = \"x\" ; check @a = b ;", atItem(0, 2), api.ErrKind},
		{"field b : text ; check @a = b < b ;", atItem(0, 1), api.ErrKind},
		{"line @a : amount 0 up = round ( 1 , 19 , up ) ;", atItem(0, 0), api.ErrScale},
		{"line b : amount 0 up = 1 ; line @a : amount 0 up = - " + sum + "1 ;", atItem(0, 1), api.ErrNodes},
		{"section k max 1 { field f : flag ; } line @a : amount 0 up = sum ( k . f ) ;", atItem(0, 0), api.ErrKind},
		{within(3, "field b : flag ; field c : text ; field @a : amount 1073741824 ;"), atItem(3, 2), api.ErrKind},
		{"section x max 1 { } " + within(3, "field b : flag ; check @a = if ( b , 1 , 2 ) ;"), atItem(4, 1), api.ErrKind},
		{"field b : flag ; page p when b { } page @q when 1 { }", atPage(1), api.ErrKind},
		{"page @q when true = 1 { }", atPage(0), api.ErrKind},
		{"page @q when - " + sum + "1 = 0 { }", atPage(0), api.ErrNodes},
	}
}

func cycleFaults() []fault {
	return []fault{
		{"line @a : flag = a ;", atItem(0, 0), api.ErrCycle},
		{"line b : flag = true ; line @a : amount 0 up = if ( b , 1 , - a ) ;", atItem(0, 1), api.ErrCycle},
		{"field x : flag ; check @c = a ; line a : flag = b ; line b : flag = a ;", atItem(0, 1), api.ErrCycle},
		{"line @t : amount 0 up = sum ( k . y ) ; section k max 1 { line y : amount 0 up = t ; }", atItem(0, 0), api.ErrCycle},
		{"section k max 1 { field x : flag ; line @y : flag = y ; }", atItem(1, 1), api.ErrCycle},
		{"field x : amount 0 ; " + within(3, "field y : amount 0 ; check z = true ; line @a : amount 0 up = b ; line b : amount 0 up = a ;"), atItem(3, 2), api.ErrCycle},
		{"section x max 1 { field b : flag ; } " + within(2, "field y : flag ; line @a : amount 0 up = max ( s3 . b ) ; section s3 max 1 { line b : amount 0 up = a + 1 ; }"), atItem(3, 1), api.ErrCycle},
		{within(2, "check @d = b ; line b : flag = b ;") + " section x max 1 { line b : flag = b ; }", atItem(2, 0), api.ErrCycle},
	}
}

// wholeText is a definition's text with that in its root; the definition's name has a mark, if nothing else has.
func wholeText(inRoot string) string {
	if strings.Contains(inRoot, "@") {
		return "return r { " + inRoot + " }"
	}
	return "return @r { " + inRoot + " }"
}

// P12.1: each fault alone, in the root and deep within sections: New at the name, Of at the place.
func TestFaults(t *testing.T) {
	for _, x := range slices.Concat(scopeFaults(), typeFaults(), cycleFaults()) {
		text := wholeText(x.text)
		wantRefusedAt(t, text, x.e)
		words, _ := marked(text)
		wantRefusedOf(t, parsed(t, strings.Join(words, " ")), x.place, x.e)
	}
}

// P12.1: the root has no name in a text: its own fault is told at 0, whatever stands there.
func TestRootFault(t *testing.T) {
	words := strings.Fields("return r { " + several(api.MaxItems+1, "field a# : flag ;") + " }")
	for _, blank := range blankings(words) {
		text, _ := spread(words, -1, blank)
		wantRefused(t, text, 0, api.ErrSize)
		wantRefusedOf(t, parsed(t, text), atSection(0), api.ErrSize)
	}
}

// A rankedFault is one that is told ahead of all those of higher ranks.
type rankedFault struct {
	rank int
	text string
	e    api.Errno
}

func rankedFaults() []rankedFault {
	return []rankedFault{
		{0, "field zz : @# ;", api.ErrWord},
		{1, "field @; ", api.ErrSyntax},
		{2, "page pl{x" + strings.Repeat(",x", 4500) + "}", api.ErrLong},
		{3, several(api.MaxTables+1, "table q# { from 0 base 0 rate 0 ; }"), api.ErrSize},
		{3, "section q1 max 1 { section q2 max 1 { section q3 max 1 { section q4 max 1 { } } } }", api.ErrSize},
		{4, "table u { from 0 base 0 rate 0 ; } table @u { from 0 base 0 rate 0 ; }", api.ErrTwice},
		{4, steps("@u1", api.MaxSteps+1), api.ErrSize},
		{5, "field d : flag ; field @d : text ;", api.ErrTwice},
		{6, "section @z max 0 { }", api.ErrSize},
		{6, "section v max 1 { field e : flag ; field @e : flag ; }", api.ErrTwice},
		{7, "check @x1 = nobody ;", api.ErrUnknown},
		{8, "section w max 1 { line @x2 : flag = nobody ; }", api.ErrUnknown},
		{9, "page g { } page @g { }", api.ErrTwice},
		{9, "page @h when nobody { }", api.ErrUnknown},
		{9, "page @h1 { nobody }", api.ErrUnknown},
		{10, "table @i { from 1 base 0 rate 0 ; from 1 base 0 rate 0 ; }", api.ErrKind},
		{11, "line @j : text = 1 ;", api.ErrKind},
		{11, "field @j1 : amount 19 ;", api.ErrKind},
		{12, "section o max 1 { line @l : flag = round ( 1 , 20 , down ) = 1 ; }", api.ErrScale},
		{13, "page @m when 1 { }", api.ErrKind},
		{14, "line @n1 : flag = n2 ; line n2 : flag = n1 ;", api.ErrCycle},
		{15, "section k max 1 { line @k1 : flag = k1 ; }", api.ErrCycle},
	}
}

// P12.1 and R2: of two faults the one that the chapter names first, in whatever order they stand.
func TestTwoFaults(t *testing.T) {
	l := rankedFaults()
	for _, first := range l {
		for _, second := range l {
			if first.rank >= second.rank {
				continue
			}
			other := strings.ReplaceAll(second.text, "@", "")
			for _, text := range []string{first.text + " " + other, other + " " + first.text} {
				words, number := marked(wholeText(text))
				text, at := spread(words, number, func(i int) string { return " " })
				wantRefused(t, text, at, first.e)
				if first.rank > 1 {
					holdRefused(t, text)
				}
			}
		}
	}
}

// P12.1 and R2: the root's own fault among others.
func TestRootFaultAmongOthers(t *testing.T) {
	items := several(api.MaxItems+1, "check y# = true ;")
	for _, x := range rankedFaults() {
		words, number := marked(wholeText(items + " " + x.text))
		text, at := spread(words, number, func(i int) string { return "\n" })
		if x.rank > 4 {
			wantRefused(t, text, 0, api.ErrSize)
		} else {
			wantRefused(t, text, at, x.e)
		}
	}
}

// P12.1: definitions that no text says, which have the zero Place, also if more is wrong with them.
func TestNoText(t *testing.T) {
	root := func(items ...api.Item) api.Def { return api.Def{Name: "r", Root: api.Section{Items: items}} }
	kids := func(l ...api.Section) api.Def { return api.Def{Name: "r", Root: api.Section{Kids: l}} }
	flag := api.Type{Kind: api.VFlag}
	number := api.Type{Kind: api.VNum}
	yes := api.Expr{Kind: api.ExConst, Value: api.Value{Kind: api.VFlag, Flag: true}}
	one := api.Expr{Kind: api.ExConst, Value: api.Value{Kind: api.VNum, Num: api.Dec{N: api.Nat{1}}}}
	minus := one
	minus.Value.Num.Neg = true
	deep := func(item api.Item) api.Def {
		return kids(api.Section{Name: "s", Max: 1, Kids: []api.Section{{Name: "u", Max: 1, Items: []api.Item{item}}}})
	}
	for _, d := range []api.Def{
		{}, {Name: "sum"}, {Name: "r "}, {Name: strings.Repeat("a", 33)}, {Name: "1"},
		{Name: "r", Root: api.Section{Name: "r"}}, {Name: "r", Root: api.Section{Max: 1}},
		kids(api.Section{Max: 1}), kids(api.Section{Name: "max", Max: 1}), kids(api.Section{Name: "s", Max: -1}), kids(api.Section{Name: "s", Max: 1<<30 + 1}),
		root(api.Item{Name: "a", Type: flag}), root(api.Item{Name: "a", Kind: 4, Type: flag}), root(api.Item{Name: "a", Kind: -1, Type: flag}),
		root(api.Item{Kind: api.ItField, Type: flag}), root(api.Item{Name: "true", Kind: api.ItField, Type: flag}),
		root(api.Item{Name: "a", Kind: api.ItField}), root(api.Item{Name: "a", Kind: api.ItField, Type: api.Type{Kind: api.VErr}}),
		root(api.Item{Name: "a", Kind: api.ItField, Type: api.Type{Kind: api.VFlag, Scale: 1}}),
		root(api.Item{Name: "a", Kind: api.ItField, Type: api.Type{Kind: api.VNum, Scale: -1}}),
		root(api.Item{Name: "a", Kind: api.ItField, Type: flag, Policy: api.Up}), root(api.Item{Name: "a", Kind: api.ItField, Type: flag, Expr: yes}),
		root(api.Item{Name: "a", Kind: api.ItLine, Type: flag}), root(api.Item{Name: "a", Kind: api.ItLine, Type: flag, Need: true, Expr: yes}),
		root(api.Item{Name: "a", Kind: api.ItLine, Type: flag, Policy: api.Up, Expr: yes}),
		root(api.Item{Name: "a", Kind: api.ItLine, Type: number, Expr: one}), root(api.Item{Name: "a", Kind: api.ItLine, Type: number, Policy: 6, Expr: one}),
		root(api.Item{Name: "a", Kind: api.ItLine, Type: number, Policy: api.Up, Expr: minus}),
		root(api.Item{Name: "a", Kind: api.ItLine, Type: number, Policy: api.Up, Expr: api.Expr{Kind: api.ExRound, Policy: 9, Args: []api.Expr{one}}}),
		root(api.Item{Name: "a", Kind: api.ItCheck}), root(api.Item{Name: "a", Kind: api.ItCheck, Type: flag, Expr: yes}),
		root(api.Item{Name: "a", Kind: api.ItCheck, Expr: api.Expr{Kind: api.ExNot}}), root(api.Item{Name: "a", Kind: api.ItCheck, Expr: api.Expr{Kind: 11}}),
		deep(api.Item{Name: "a", Kind: api.ItLine, Type: number, Policy: api.Up, Expr: minus}), deep(api.Item{Name: "when", Kind: api.ItField, Type: flag}),
		{Name: "r", Tables: []api.Table{{Name: "t"}}}, {Name: "r", Tables: []api.Table{{Steps: []api.Step{{}}}}},
		{Name: "r", Tables: []api.Table{{Name: "t", Steps: []api.Step{{From: api.Dec{Neg: true}}}}}},
		{Name: "r", Tables: []api.Table{{Name: "t", Steps: []api.Step{{Rate: api.Dec{Scale: 19}}}}}},
		{Name: "r", Pages: []api.Page{{}}}, {Name: "r", Pages: []api.Page{{Name: "p", Items: []string{""}}}},
		{Name: "r", Pages: []api.Page{{Name: "p", When: api.Expr{Name: "a"}}}},
	} {
		wantRefusedOf(t, d, api.Place{}, api.ErrText)
		more := grammar.Clone(d)
		more.Root.Items = append(more.Root.Items, api.Item{Name: "a", Kind: api.ItLine, Type: flag, Expr: api.Expr{Kind: api.ExName, Name: "a"}}, api.Item{Name: "a", Kind: api.ItField, Type: flag})
		wantRefusedOf(t, more, api.Place{}, api.ErrText)
	}
}

// ofLength is a text as Print writes it, of just so many bytes, from 11,000 to 22,000.
func ofLength(length int) string {
	words := strings.Fields("return r { " + several(10, "section s# max 1 { "+several(60, "field a# : flag ;")+" }") + " }")
	spare := length - len(strings.Join(words, " "))
	for i, word := range words {
		if i > 0 && words[i-1] == "field" {
			fill := min(spare, 20)
			words[i] = word + strings.Repeat("_", fill)
			spare -= fill
		}
	}
	return strings.Join(words, " ")
}

// P12.1: texts at the longest length and beyond it, with blanks and as Print writes them.
func TestLongest(t *testing.T) {
	pad := func(text string, length int) string { return text + strings.Repeat(" ", length-len(text)) }
	comment := func(text string, length int) string { return "//" + pad("", length-len(text)-3) + "\n" + text }
	const short = "return r { field a : flag ; }"
	for _, long := range []func(string, int) string{pad, comment} {
		text := long(short, api.MaxSource)
		s, at, e := New(text)
		if len(text) != api.MaxSource || s.Text() != short || at != 0 || e != api.OK {
			t.Error("the longest text:", len(text), at, e)
		}
		wantRefused(t, long(short, api.MaxSource+1), 0, api.ErrLong)
		wantRefused(t, long("return r { # }", api.MaxSource+1), 0, api.ErrLong)
	}
	for _, more := range []int{-1, 0, 1, 2, 1000} {
		text := ofLength(api.MaxSource + more)
		if len(text) != api.MaxSource+more {
			t.Fatal("made of", len(text), "bytes")
		}
		words := strings.Fields(text)
		if more <= 0 {
			s, at, e := New(text)
			if at != 0 || e != api.OK || s.Text() != text {
				t.Error("New of", len(text), "bytes is", at, e)
			}
			continue
		}
		wantRefused(t, text, 0, api.ErrLong)
		// Without blanks that say nothing it is a text, but Print's would be too long: the definition's name is told.
		tight, at := spread(words, 1, blankings(words)[1])
		wantRefused(t, tight, at, api.ErrLong)
		wantRefused(t, "// x\n"+tight, at+5, api.ErrLong)
		wantRefusedOf(t, parsed(t, tight), api.Place{}, api.ErrLong)
	}
}

// P12.1 and the bound: what is far too long or too deep is refused soon.
func TestFarTooMuch(t *testing.T) {
	const many = 1 << 16
	x := api.Expr{Kind: api.ExName, Name: "a"}
	for range many {
		x = api.Expr{Kind: api.ExNot, Args: []api.Expr{x}}
	}
	wantTooLong := func(d api.Def) {
		t.Helper()
		if s, place, e := Of(d); s != nil || place != (api.Place{}) || e != api.ErrLong {
			t.Error("Of is", place, e)
		}
	}
	wantTooLong(api.Def{Name: "r", Root: api.Section{Items: []api.Item{{Name: "a", Kind: api.ItLine, Type: api.Type{Kind: api.VFlag}, Expr: x}}}})
	s := api.Section{Name: "s"}
	for range many {
		s = api.Section{Name: "s", Kids: []api.Section{s}}
	}
	wantTooLong(api.Def{Name: "r", Root: api.Section{Kids: []api.Section{s}}})
	wide := api.Def{Name: "r"}
	for range 4 * many {
		wide.Root.Items = append(wide.Root.Items, api.Item{Name: "a", Kind: api.ItCheck, Expr: api.Expr{Kind: api.ExName, Name: "a"}})
	}
	wantTooLong(wide)
	wantRefused(t, strings.Repeat("return ", many), 0, api.ErrLong)
	deep := "return r { check c = " + strings.Repeat("(", 8000) + "true" + strings.Repeat(")", 8000) + " ; }"
	if s, at, e := New(deep); at != 0 || e != api.OK || s.Text() != "return r { check c = true ; }" {
		t.Error("brackets", at, e)
	}
	wantRefused(t, "return r{check c="+strings.Repeat("-", 16000)+"1;}", len("return "), api.ErrLong)
	wantRefused(t, "return r{check c="+strings.Repeat("-", 8000)+"1;}", len("return r{check "), api.ErrNodes)
}

// stuckOf is the first item that reads, by however many steps, one that reads itself so; found by going on till nothing new is read.
func stuckOf(l []api.Sect) (api.Place, bool) {
	reach := reachOf(l)
	for n := range reach {
		for m := range reach {
			if reach[n][m] && reach[m][m] {
				section, item, _ := ranks.Of(l, n)
				return atItem(section, item), true
			}
		}
	}
	return api.Place{}, false
}

// reachOf tells of each two items whether one reads the other, by one step or more.
func reachOf(l []api.Sect) [][]bool {
	many := 0
	for _, s := range l {
		many += len(s.Items)
	}
	reach := make([][]bool, many)
	for n := range reach {
		reach[n] = make([]bool, many)
		for _, m := range ranks.Reads(l, n) {
			reach[n][m] = true
		}
	}
	for by := range reach {
		for n := range reach {
			for m := range reach {
				reach[n][m] = reach[n][m] || reach[n][by] && reach[by][m]
			}
		}
	}
	return reach
}
