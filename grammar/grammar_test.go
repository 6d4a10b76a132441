package grammar

import (
	"reflect"
	"slices"
	"strings"
	"testing"

	"excise/api"
	"excise/lex"
)

func name(s string) api.Expr { return api.Expr{Kind: api.ExName, Name: s} }

func num(n uint64, scale int) api.Expr {
	return api.Expr{Kind: api.ExConst, Value: api.Value{Kind: api.VNum, Num: api.Dec{N: api.Nat{n}, Scale: scale}}}
}

func flag(yes bool) api.Expr {
	return api.Expr{Kind: api.ExConst, Value: api.Value{Kind: api.VFlag, Flag: yes}}
}

func quoted(s string) api.Expr {
	return api.Expr{Kind: api.ExConst, Value: api.Value{Kind: api.VText, Text: s}}
}

func op(o int, a, b api.Expr) api.Expr {
	return api.Expr{Kind: api.ExOp, Op: o, Args: []api.Expr{a, b}}
}

func neg(x api.Expr) api.Expr { return api.Expr{Kind: api.ExNeg, Args: []api.Expr{x}} }

func not(x api.Expr) api.Expr { return api.Expr{Kind: api.ExNot, Args: []api.Expr{x}} }

func wantDef(t *testing.T, text string, want api.Def) {
	t.Helper()
	d, at, e := Parse(text)
	if e != api.OK || at != 0 || !reflect.DeepEqual(d, want) {
		t.Errorf("Parse(%q)\n is %+v, %d, %d\nnot %+v", text, d, at, e, want)
	}
}

func wantExpr(t *testing.T, text string, want api.Expr) {
	t.Helper()
	x, at, e := Expr(text)
	if e != api.OK || at != 0 || !reflect.DeepEqual(x, want) {
		t.Errorf("Expr(%q)\n is %+v, %d, %d\nnot %+v", text, x, at, e, want)
	}
}

func wantNoDef(t *testing.T, text string, place int, want api.Errno) {
	t.Helper()
	d, at, e := Parse(text)
	if e != want || at != place || !reflect.DeepEqual(d, api.Def{}) {
		t.Errorf("Parse(%q) is %+v, %d, %d, not %d, %d", text, d, at, e, place, want)
	}
	if l, f := Spots(text); len(l) != 0 || f != want {
		t.Errorf("Spots(%q) is %v, %d, not %d", text, l, f, want)
	}
}

func wantNoExpr(t *testing.T, text string, place int, want api.Errno) {
	t.Helper()
	x, at, e := Expr(text)
	if e != want || at != place || !reflect.DeepEqual(x, api.Expr{}) {
		t.Errorf("Expr(%q) is %+v, %d, %d, not %d, %d", text, x, at, e, place, want)
	}
}

// P8.1: the chapter's examples.
func TestExamples(t *testing.T) {
	text := "return r { field a : amount 2 needed ; line t : amount 0 half_up = a * 0.25 + 1 ; }"
	wantDef(t, text, api.Def{Name: "r", Root: api.Section{Items: []api.Item{
		{Name: "a", Kind: api.ItField, Type: api.Type{Kind: api.VNum, Scale: 2}, Need: true},
		{Name: "t", Kind: api.ItLine, Type: api.Type{Kind: api.VNum}, Policy: api.HalfUp,
			Expr: op(api.OpAdd, op(api.OpMul, name("a"), num(25, 2)), num(1, 0))},
	}}})
	wantExpr(t, "a or b and not c = d", op(api.OpOr, name("a"), op(api.OpAnd, name("b"), not(op(api.OpEq, name("c"), name("d"))))))
	wantNoDef(t, "return r { field : }", 17, api.ErrSyntax)
}

// P8.1: each thing of a definition, what may be left out there and not there, what may come often none, one and two times.
func TestParseParts(t *testing.T) {
	item := func(i api.Item) api.Def { return api.Def{Name: "r", Root: api.Section{Items: []api.Item{i}}} }
	amount := api.Type{Kind: api.VNum, Scale: 2}
	a := name("a")
	zero := api.Step{}
	for text, want := range map[string]api.Def{
		"return r{}":                                    {Name: "r"},
		"return r{field a:amount 2;}":                   item(api.Item{Name: "a", Kind: api.ItField, Type: amount}),
		"return r{field a:amount 2 needed;}":            item(api.Item{Name: "a", Kind: api.ItField, Type: amount, Need: true}),
		"return r{field a:flag;}":                       item(api.Item{Name: "a", Kind: api.ItField, Type: api.Type{Kind: api.VFlag}}),
		"return r{field a:text needed;}":                item(api.Item{Name: "a", Kind: api.ItField, Type: api.Type{Kind: api.VText}, Need: true}),
		"return r{field a:amount 1073741824;}":          item(api.Item{Name: "a", Kind: api.ItField, Type: api.Type{Kind: api.VNum, Scale: 1 << 30}}),
		"return r{line t:amount 2 half_up=a;}":          item(api.Item{Name: "t", Kind: api.ItLine, Type: amount, Policy: api.HalfUp, Expr: a}),
		"return r{line t:amount 2 half_even=a;}":        item(api.Item{Name: "t", Kind: api.ItLine, Type: amount, Policy: api.HalfEven, Expr: a}),
		"return r{line t:amount 2 down=a;}":             item(api.Item{Name: "t", Kind: api.ItLine, Type: amount, Policy: api.Down, Expr: a}),
		"return r{line t:amount 2 up=a;}":               item(api.Item{Name: "t", Kind: api.ItLine, Type: amount, Policy: api.Up, Expr: a}),
		"return r{line t:amount 2 floor=a;}":            item(api.Item{Name: "t", Kind: api.ItLine, Type: amount, Policy: api.Floor, Expr: a}),
		"return r{line t:flag=a=a;}":                    item(api.Item{Name: "t", Kind: api.ItLine, Type: api.Type{Kind: api.VFlag}, Expr: op(api.OpEq, a, a)}),
		"return r{line t:text=\"x\";}":                  item(api.Item{Name: "t", Kind: api.ItLine, Type: api.Type{Kind: api.VText}, Expr: quoted("x")}),
		"return r{check c=a;}":                          item(api.Item{Name: "c", Kind: api.ItCheck, Expr: a}),
		"return r{section s max 0{}}":                   {Name: "r", Root: api.Section{Kids: []api.Section{{Name: "s"}}}},
		"return r{section s max 7{}section s max 1{}}":  {Name: "r", Root: api.Section{Kids: []api.Section{{Name: "s", Max: 7}, {Name: "s", Max: 1}}}},
		"return r{section s max 7{section u max 1{}}}":  {Name: "r", Root: api.Section{Kids: []api.Section{{Name: "s", Max: 7, Kids: []api.Section{{Name: "u", Max: 1}}}}}},
		"return r{table t{from 0 base 0 rate 0;}}":      {Name: "r", Tables: []api.Table{{Name: "t", Steps: []api.Step{zero}}}},
		"return r{table t{from -0 base - 0 rate -0.0;}": {},
		"return r{table t{from -0 base - 0 rate -0.0;}}": {Name: "r", Tables: []api.Table{{Name: "t", Steps: []api.Step{
			{Rate: api.Dec{Scale: 1}}}}}},
		"return r{table t{from -1 base 2.0 rate - 0.03;from 1 base 0 rate 0;}table u{from 0 base 0 rate 0;}}": {Name: "r", Tables: []api.Table{
			{Name: "t", Steps: []api.Step{
				{From: api.Dec{Neg: true, N: api.Nat{1}}, Base: api.Dec{N: api.Nat{20}, Scale: 1}, Rate: api.Dec{Neg: true, N: api.Nat{3}, Scale: 2}},
				{From: api.Dec{N: api.Nat{1}}}}},
			{Name: "u", Steps: []api.Step{zero}}}},
		"return r{page p{}}":                        {Name: "r", Pages: []api.Page{{Name: "p"}}},
		"return r{page p when a{}}":                 {Name: "r", Pages: []api.Page{{Name: "p", When: a}}},
		"return r{page p{a}page q when a{a,b,a}}":   {Name: "r", Pages: []api.Page{{Name: "p", Items: []string{"a"}}, {Name: "q", When: a, Items: []string{"a", "b", "a"}}}},
		"return r{page p when a{}page q when b{b}}": {Name: "r", Pages: []api.Page{{Name: "p", When: a}, {Name: "q", When: name("b"), Items: []string{"b"}}}},
	} {
		if want.Name != "" {
			wantDef(t, text, want)
		} else {
			wantNoDef(t, text, len(text), api.ErrSyntax)
		}
	}
}

// P8.1: items may stand among all else; their order is kept, that among other kinds is lost.
func TestParseOrder(t *testing.T) {
	c := func(s string) api.Item { return api.Item{Name: s, Kind: api.ItCheck, Expr: name("x")} }
	one := []api.Step{{}}
	step := "{ from 0 base 0 rate 0 ; }"
	wantDef(t, "return r { page p { } check a = x ; table t "+step+" section s max 1 { check d = x ; section v max 2 { } check e = x ; } check b = x ; page q { } section u max 1 { } table w "+step+" check c = x ; }",
		api.Def{Name: "r",
			Root: api.Section{Items: []api.Item{c("a"), c("b"), c("c")}, Kids: []api.Section{
				{Name: "s", Max: 1, Items: []api.Item{c("d"), c("e")}, Kids: []api.Section{{Name: "v", Max: 2}}},
				{Name: "u", Max: 1}}},
			Tables: []api.Table{{Name: "t", Steps: one}, {Name: "w", Steps: one}},
			Pages:  []api.Page{{Name: "p"}, {Name: "q"}}})
}

// P8.1: each kind of expression.
func TestExprKinds(t *testing.T) {
	a, b := name("a"), name("b")
	agg := func(o int, s, n string) api.Expr { return api.Expr{Kind: api.ExAgg, Op: o, Section: s, Name: n} }
	for text, want := range map[string]api.Expr{
		"0":                      num(0, 0),
		"1.50":                   num(150, 2),
		"\"\"":                   quoted(""),
		"\"\\\"\\x00\"":          quoted("\"\x00"),
		"\"true\"":               quoted("true"),
		"true":                   flag(true),
		"false":                  flag(false),
		"truer":                  name("truer"),
		"a":                      a,
		"(a)":                    a,
		"((a))":                  a,
		"a(b)":                   {Kind: api.ExBracket, Name: "a", Args: []api.Expr{b}},
		"a((b))":                 {Kind: api.ExBracket, Name: "a", Args: []api.Expr{b}},
		"if(a,b,a)":              {Kind: api.ExIf, Args: []api.Expr{a, b, a}},
		"round(a,0,half_up)":     {Kind: api.ExRound, Policy: api.HalfUp, Args: []api.Expr{a}},
		"round(a,1,half_even)":   {Kind: api.ExRound, Scale: 1, Policy: api.HalfEven, Args: []api.Expr{a}},
		"round(a,18,down)":       {Kind: api.ExRound, Scale: 18, Policy: api.Down, Args: []api.Expr{a}},
		"round(a,19,up)":         {Kind: api.ExRound, Scale: 19, Policy: api.Up, Args: []api.Expr{a}},
		"round(a,1073741824,up)": {Kind: api.ExRound, Scale: 1 << 30, Policy: api.Up, Args: []api.Expr{a}},
		"round(a,2,floor)":       {Kind: api.ExRound, Scale: 2, Policy: api.Floor, Args: []api.Expr{a}},
		"blank(a)":               {Kind: api.ExBlank, Args: []api.Expr{a}},
		"rows(a)":                agg(api.AgRows, "a", ""),
		"sum(a.b)":               agg(api.AgSum, "a", "b"),
		"count(a.b)":             agg(api.AgCount, "a", "b"),
		"min(a.b)":               agg(api.AgMin, "a", "b"),
		"max(a.b)":               agg(api.AgMax, "a", "b"),
		"-a":                     neg(a),
		"-0":                     neg(num(0, 0)),
		"- - a":                  neg(neg(a)),
		"not a":                  not(a),
		"not not a":              not(not(a)),
		"a+b":                    op(api.OpAdd, a, b),
		"a-b":                    op(api.OpSub, a, b),
		"a*b":                    op(api.OpMul, a, b),
		"a=b":                    op(api.OpEq, a, b),
		"a!=b":                   op(api.OpNe, a, b),
		"a<b":                    op(api.OpLt, a, b),
		"a<=b":                   op(api.OpLe, a, b),
		"a>b":                    op(api.OpGt, a, b),
		"a>=b":                   op(api.OpGe, a, b),
		"a and b":                op(api.OpAnd, a, b),
		"a or b":                 op(api.OpOr, a, b),
	} {
		wantExpr(t, text, want)
		if s, e := Show(want); e != api.OK {
			t.Errorf("Show(%+v) is %q, %d", want, s, e)
		}
	}
}

// P8.1, P8.2: all short texts of words, and what Expr and Show say of them, against the rules' chart and the words taken apart at the last operator.
func TestExprAll(t *testing.T) {
	vocabulary, _, _ := lex.Scan("a ( ) or and not = <= + - *")
	c := newChart(newBook(), "expr")
	whole := 0
	var grow func(words []api.Token)
	grow = func(words []api.Token) {
		whole += checkExpr(t, words, c.whole())
		if len(words) == 7 {
			return
		}
		for _, word := range vocabulary {
			longer := append(slices.Clip(words), word)
			if c.push(word) {
				grow(longer)
				c.pop()
			} else {
				text := lex.Join(longer...)
				wantNoExpr(t, text, len(text)-len(word.Text), api.ErrSyntax)
			}
		}
	}
	grow(nil)
	if whole < 2000 {
		t.Error("only so many expressions:", whole)
	}
}

// checkExpr holds what is said of words, with which some expression goes on, against what they are; it counts those that are one.
func checkExpr(t *testing.T, words []api.Token, whole bool) int {
	t.Helper()
	text := lex.Join(words...)
	if !whole {
		wantNoExpr(t, text, len(text), api.ErrSyntax)
		return 0
	}
	want := treeOf(words)
	wantExpr(t, text, want)
	checkShown(t, want)
	return 1
}

// checkShown: Show's text is the expression's, and would be another one's, or none's, without any pair of its brackets.
func checkShown(t *testing.T, x api.Expr) {
	t.Helper()
	text, e := Show(x)
	if e == api.ErrLong {
		return
	}
	words, _, f := lex.Scan(text)
	if e != api.OK || f != api.OK || lex.Join(words...) != text {
		t.Fatalf("Show(%+v) is %q, %d", x, text, e)
	}
	wantExpr(t, text, x)
	if len(words) > 80 {
		return
	}
	var open []int
	for i, word := range words {
		switch word.Text {
		case "(":
			open = append(open, i)
		case ")":
			from := open[len(open)-1]
			open = open[:len(open)-1]
			less := slices.Delete(slices.Clone(words), i, i+1)
			less = slices.Delete(less, from, from+1)
			if y, _, e := Expr(lex.Join(less...)); e == api.OK && reflect.DeepEqual(x, y) {
				t.Errorf("Show: %q has brackets that say nothing at %d", text, from)
			}
		}
	}
}

// P8.1, P8.4 to P8.7: made-up definitions with blanks and comments between their words.
func TestMade(t *testing.T) {
	for seed := range int64(800) {
		m := newMaker(seed)
		d := m.def()
		text, places := m.laid()
		if len(text) > api.MaxSource {
			continue
		}
		wantDef(t, text, d)
		checkSpots(t, m, d, text, places)
		if !Same(d, Clone(d)) {
			t.Errorf("Clone(%+v) is another one", d)
		}
		printed, e := Print(d)
		if e == api.ErrLong {
			continue
		}
		words, _, _ := lex.Scan(printed)
		if e != api.OK || printed != lex.Join(words...) {
			t.Fatalf("Print(%+v) is %q, %d", d, printed, e)
		}
		wantDef(t, printed, d)
		checkItems(t, d.Root)
	}
}

func checkItems(t *testing.T, s api.Section) {
	t.Helper()
	for _, i := range s.Items {
		if i.Kind != api.ItField {
			checkShown(t, i.Expr)
		}
	}
	for _, kid := range s.Kids {
		checkItems(t, kid)
	}
}

// checkSpots: the spots are where the maker put names, and the name of what a spot's place is stands there.
func checkSpots(t *testing.T, m *maker, d api.Def, text string, places []int) {
	t.Helper()
	var want []api.Spot
	for _, s := range m.spots {
		want = append(want, api.Spot{Place: s.place, At: places[s.word]})
	}
	l, e := Spots(text)
	if e != api.OK || !slices.Equal(l, want) {
		t.Fatalf("Spots(%q)\n is %v, %d\nnot %v", text, l, e, want)
	}
	for _, s := range l {
		if n := nameOf(d, s.Place); n == "" || !strings.HasPrefix(text[s.At:], n) {
			t.Errorf("Spots(%q): %v does not stand at %q", text, s, n)
		}
	}
}

// nameOf is the name of what stands at a place.
func nameOf(d api.Def, p api.Place) string {
	var sections []api.Section
	var gather func(s api.Section)
	gather = func(s api.Section) {
		sections = append(sections, s)
		for _, kid := range s.Kids {
			gather(kid)
		}
	}
	gather(d.Root)
	switch p.Kind {
	case api.PlTable:
		return d.Tables[p.Table].Name
	case api.PlSection:
		return sections[p.Section].Name
	case api.PlItem:
		return sections[p.Section].Items[p.Item].Name
	case api.PlPage:
		return d.Pages[p.Page].Name
	}
	return d.Name
}

// Every rule, so that each rule's beginning and end stand in it.
const everything = `return r { field a : amount 2 needed ; field b : flag ; line t : amount 0 half_up = - a * 2 + T ( 1 ) ; ` +
	`line u : text = "x" ; check c = not b or a >= 0 and true ; section s max 10 { field d : text ; section v max 1 { } line e : flag = false ; } ` +
	`table T { from - 1 base 0 rate 0.1 ; from 2 base 0 rate 0 ; } page p when if ( b , round ( a , 0 , up ) , blank ( b ) ) { a , s } page q { } ` +
	`check w = rows ( s ) = sum ( s . d ) ; }`

// P8.1: at each word of a definition: that word left out, put twice, changed to each other one; the words that end there.
func TestFaults(t *testing.T) {
	words, _, _ := lex.Scan(everything)
	others, _, _ := lex.Scan(ownWords + " name { } ( ) , ; : . = != < <= > >= + - * 7 0.5 1073741824 1073741825 \"text\"")
	c := newChart(newBook(), "def")
	wantFault(t, c, words, nil)
	for i := range words {
		wantFault(t, c, words[:i], words[i+1:])
		wantFault(t, c, words[:i+1], words[i:])
		wantFault(t, c, words[:i], nil)
		for _, other := range others {
			wantFault(t, c, words[:i], append([]api.Token{other}, words[i+1:]...))
			wantFault(t, c, words[:i], append([]api.Token{other}, words[i:]...))
		}
		if !c.push(words[i]) {
			t.Fatal("the rules do not take", words[i])
		}
	}
}

// wantFault holds Parse against the chart, which has taken the words ahead (or none), of these and those behind them.
func wantFault(t *testing.T, c *chart, ahead, behind []api.Token) {
	t.Helper()
	taken := len(c.sets) - 1
	all := append(slices.Clone(ahead), behind...)
	n, wrong := c.fault(all[taken:])
	text := lex.Join(all...)
	if !wrong {
		if _, at, e := Parse(text); at != 0 || e != api.OK {
			t.Errorf("Parse(%q) is %d, %d, not 0, 0", text, at, e)
		}
		return
	}
	place := len(lex.Join(all[:taken+n]...))
	if place > 0 && taken+n < len(all) {
		place++
	}
	wantNoDef(t, text, place, api.ErrSyntax)
}

// P8.1: faults told one by one, so that the chart is not the only one to say so.
func TestFaultPlaces(t *testing.T) {
	for _, y := range []struct {
		text string
		at   int
	}{
		{"", 0}, {" // x\n ", 7}, {"return", 6}, {"return \t", 8}, {"return r { } }", 13}, {"return r { } return", 13},
		{"Return r { }", 0}, {"\"return\" r { }", 0}, {"return \"r\" { }", 7}, {"return 1 { }", 7},
		{"return r { needed }", 11}, {"return r { section s { } }", 21}, {"return r { section s max - 1 { } }", 25},
		{"return r { section s max 1.0 { } }", 25}, {"return r { section s max 1073741825 { } }", 25},
		{"return r { section s max 18446744073709551616 { } }", 25}, {"return r { section s max 340282366920938463463374607431768211457 { } }", 25},
		{"return r { section s max 007 { } }", 26}, {"return r { section s max 1 { page p { } } }", 29},
		{"return r { table t { } }", 21}, {"return r { table t { from - - 1 base 0 rate 0 ; } }", 28}, {"return r { table t { from 1 base 0 rate a ; } }", 40},
		{"return r { table t { from 1 base 0 rate 0 } }", 42},
		{"return r { field a : amount 2 half_up ; }", 30}, {"return r { field a : amount ; }", 28}, {"return r { field a : flag 2 ; }", 26},
		{"return r { field a : number ; }", 21}, {"return r { field a = 1 ; }", 19}, {"return r { field a : text needed needed ; }", 33},
		{"return r { line t : amount 2 needed = 1 ; }", 29}, {"return r { line t : flag half_up = 1 ; }", 25}, {"return r { line t = 1 ; }", 18},
		{"return r { line t : text needed = 1 ; }", 25}, {"return r { check c : flag = 1 ; }", 19}, {"return r { check c = ; }", 21},
		{"return r { page p when { } }", 23}, {"return r { page p { a , } }", 24}, {"return r { page p { a b } }", 22}, {"return r { page p { , } }", 20},
		{"return r { page p { sum } }", 20}, {"return r { page p { 1 } }", 20},
	} {
		wantNoDef(t, y.text, y.at, api.ErrSyntax)
	}
	for _, y := range []struct {
		text string
		at   int
	}{
		{"", 0}, {"a b", 2}, {"a = b = c", 6}, {"not a = b = c", 10}, {"a = not b", 4}, {"- not a", 2}, {"a + not b", 4}, {"a and", 5}, {"( a", 3}, {"( )", 2},
		{"a ( )", 4}, {"a ( b , c )", 6}, {"if ( a , b )", 11}, {"if a", 3}, {"if ( a , b , c , d )", 15}, {"round ( a )", 10}, {"round ( a , 1 )", 14},
		{"round ( a , 1.0 , up )", 12}, {"round ( a , 1073741825 , up )", 12}, {"round ( a , 1 , upper )", 16}, {"round ( a , b , up )", 12}, {"round ( a , - 1 , up )", 12},
		{"rows ( s . b )", 9}, {"rows s", 5}, {"sum ( s )", 8}, {"sum ( s , b )", 8}, {"max ( s . b . c )", 12}, {"min ( s . 1 )", 10}, {"count ( sum . b )", 8}, {"sum ( s . count )", 10},
		{"sum", 3}, {"+ a", 0}, {"a * * b", 4}, {"a < > b", 4}, {"a . b", 2}, {"true ( a )", 5}, {"1 ( a )", 2}, {"half_up", 0}, {"( a ) ( b )", 6}, {"a or or b", 5}, {"blank a", 6},
	} {
		wantNoExpr(t, y.text, y.at, api.ErrSyntax)
	}
}

// P8.1: lex's errors come first, wherever else the words go wrong.
func TestFaultsOfWords(t *testing.T) {
	long := "return r { }" + strings.Repeat(" ", api.MaxSource)
	for _, y := range []struct {
		text string
		at   int
		e    api.Errno
	}{
		{"#", 0, api.ErrWord}, {"return return #", 14, api.ErrWord}, {"return r { } /", 13, api.ErrWord}, {"return r { field \"\\q\" }", 17, api.ErrWord},
		{"return " + strings.Repeat("n", 33) + " { }", 7, api.ErrWord}, {"return r { \"" + strings.Repeat("t", 65) + "\" }", 11, api.ErrWord},
		{long, 0, api.ErrLong}, {strings.Repeat("#", api.MaxSource+1), 0, api.ErrLong},
	} {
		wantNoDef(t, y.text, y.at, y.e)
		wantNoExpr(t, y.text, y.at, y.e)
	}
	wantDef(t, long[:api.MaxSource], api.Def{Name: "r"})
	wantNoDef(t, "return r {"+strings.Repeat(" ", api.MaxSource-10), api.MaxSource, api.ErrSyntax)
}

// P8.1, P8.2: each of the language's words where a name is asked, and as the first letters of one.
func TestNames(t *testing.T) {
	places := []string{"return ? { }", "return r { field ? : flag ; }", "return r { line ? : flag = a ; }", "return r { check ? = a ; }", "return r { section ? max 1 { } }",
		"return r { table ? { from 0 base 0 rate 0 ; } }", "return r { page ? { } }", "return r { page p { ? } }", "return r { page p { a , ? } }",
		"return r { check c = rows ( ? ) ; }", "return r { check c = sum ( ? . a ) ; }", "return r { check c = sum ( a . ? ) ; }"}
	for _, word := range strings.Fields(ownWords) {
		for _, place := range places {
			wantNoDef(t, strings.Replace(place, "?", word, 1), strings.Index(place, "?"), api.ErrSyntax)
			for _, other := range []string{word + "_", word + "1", word + word, "_" + word, strings.ToUpper(word[:1]) + word[1:], word[:len(word)-1] + "_"} {
				text := strings.Replace(place, "?", other, 1)
				d, _, e := Parse(text)
				if e != api.OK {
					t.Errorf("Parse(%q) is %d", text, e)
				}
				if s, e := Print(d); e != api.OK || s != text {
					t.Errorf("Print of Parse(%q) is %q, %d", text, s, e)
				}
			}
		}
		wantExpr(t, word+"_", name(word+"_"))
		for _, x := range []api.Expr{name(word), {Kind: api.ExBracket, Name: word, Args: []api.Expr{name("a")}}} {
			wantNotShown(t, x, api.ErrText)
		}
	}
}

// P8.1, P8.2: as deep as a text allows.
func TestDeep(t *testing.T) {
	nest := func(ahead, inside, behind string) (string, int) {
		n := (api.MaxSource - len(inside)) / (len(ahead) + len(behind))
		return strings.Repeat(ahead, n) + inside + strings.Repeat(behind, n), n
	}
	text, _ := nest("(", "a", ")")
	wantExpr(t, text, name("a"))
	for _, ahead := range []string{"(", "-", "not ", "if(", "blank(", "a(", "a+(", "a or(", "a,"} {
		n := api.MaxSource / len(ahead)
		text := strings.Repeat(ahead, n)
		if x, at, e := Expr(text); e != api.ErrSyntax || (at != len(text) && ahead != "a,") || x.Kind != 0 {
			t.Error(ahead, at, e)
		}
	}
	for _, y := range [][3]string{{"- ", "a", ""}, {"not ", "a", ""}, {"blank ( ", "a", " )"}, {"a ( ", "a", " )"}, {"if ( a , b , ", "a", " )"}, {"round ( ", "a", " , 0 , up )"}, {"a + ( ", "a + a", " )"}, {"", "a", " - a"}, {"", "a", " and a"}, {"not ( a or ", "b", " )"}, {"- ( a = ", "b", " )"}} {
		text, n := nest(y[0], y[1], y[2])
		x, _, e := Expr(text)
		if s, f := Show(x); e != api.OK || f != api.OK || s != text {
			t.Error(y, e, f, len(text))
		}
		depth := 0
		for len(x.Args) > 0 && depth <= n {
			if depth++; x.Args[0].Kind == api.ExName {
				x = x.Args[len(x.Args)-1]
			} else {
				x = x.Args[0]
			}
		}
		if depth < n {
			t.Error(y, "is only so deep:", depth, "of", n)
		}
	}
	text, n := nest("section s max 1 { ", "", "} ")
	text = strings.TrimSuffix("return r { "+text[len("section s max 1 { "):len(text)-2]+"} ", " ")
	d, _, e := Parse(text)
	if s, f := Print(d); e != api.OK || f != api.OK || s != text || !Same(d, Clone(d)) {
		t.Error("sections", e, f, n, len(text))
	}
	if l, e := Spots(text); e != api.OK || len(l) != n || l[n-1].Place != (api.Place{Kind: api.PlSection, Section: n - 1}) {
		t.Error("sections' spots", e, len(l))
	}
}

func wantNotShown(t *testing.T, x api.Expr, want api.Errno) {
	t.Helper()
	if s, e := Show(x); e != want || s != "" {
		t.Errorf("Show(%+v) is %q, %d, not %d", x, s, e, want)
	}
}
