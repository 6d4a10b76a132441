package schema

import (
	"math/rand"
	"slices"
	"strconv"
	"strings"
	"testing"

	"excise/api"
	"excise/grammar"
	"excise/lex"
	"excise/scope"
	"excise/types"
)

// judged is the first thing that is wrong with a definition, by the chapter's words.
func judged(d api.Def) (api.Place, api.Errno) {
	if _, e := grammar.Print(d); e != api.OK {
		return api.Place{}, e
	}
	if place, e := scope.Check(d); e != api.OK {
		return place, e
	}
	if place, e := types.Check(d); e != api.OK {
		return place, e
	}
	if place, stuck := stuckOf(scope.Flat(d)); stuck {
		return place, api.ErrCycle
	}
	return api.Place{}, api.OK
}

// placesOf are the words of a text that names stand at, by the places of the definition: each is behind the word that says of which kind it is.
func placesOf(words []string) map[api.Place]int {
	found := map[api.Place]int{}
	var around []int // the numbers of sections, -1 of tables and pages
	items := map[int]int{}
	sections, tables, pages := 0, 0, 0
	for i, word := range words {
		place := api.Place{}
		switch word {
		case "return":
			around = append(around, 0)
		case "section":
			sections++
			around = append(around, sections)
			place = atSection(sections)
		case "table":
			around = append(around, -1)
			place = atTable(tables)
			tables++
		case "page":
			around = append(around, -1)
			place = atPage(pages)
			pages++
		case "field", "line", "check":
			section := around[len(around)-1]
			place = atItem(section, items[section])
			items[section]++
		case "}":
			around = around[:len(around)-1]
			continue
		default:
			continue
		}
		found[place] = i + 1
	}
	return found
}

func textsOf(tokens []api.Token) []string {
	var words []string
	for _, token := range tokens {
		words = append(words, token.Text)
	}
	return words
}

// holdRefused holds what New says of a text that is refused, though it says a definition, against what Of says of that, and what both say against the chapter's words.
func holdRefused(t *testing.T, text string) {
	t.Helper()
	d := parsed(t, text)
	place, want := judged(d)
	if want == api.OK {
		t.Errorf("nothing is wrong with %.2000q", text)
	}
	wantRefusedOf(t, d, place, want)
	tokens, _, _ := lex.Scan(text)
	at := 0
	if word, ok := placesOf(textsOf(tokens))[place]; ok {
		at = tokens[word].At
	} else if place != atSection(0) {
		t.Errorf("%+v is no place of %.2000q", place, text)
	}
	wantRefused(t, text, at, want)
}

// holdText holds New of whatever text against grammar.Parse and Of (P12.3), and tells the error.
func holdText(t *testing.T, text string) api.Errno {
	t.Helper()
	d, at, e := grammar.Parse(text)
	if e != api.OK {
		wantRefused(t, text, at, e)
		return e
	}
	_, _, e = Of(d)
	if e != api.OK {
		holdRefused(t, text)
	}
	s, at, f := New(text)
	if (s != nil) != (e == api.OK) || f != e || at < 0 || at > len(text) {
		t.Errorf("New(%q) is %v, %d, %d; Of of what it says is %d", text, s, at, f, e)
	}
	if e == api.OK {
		holdAgain(t, s, d)
		holdOrder(t, s)
	}
	return e
}

// holdAgain: P12.4, New of Text is a schema of the same definition.
func holdAgain(t *testing.T, s *Schema, d api.Def) {
	t.Helper()
	again, at, e := New(s.Text())
	if at != 0 || e != api.OK || again.Text() != s.Text() || !grammar.Same(again.Def(), d) || !grammar.Same(s.Def(), d) {
		t.Errorf("New of Text is %v, %d, %d, of %q", again, at, e, s.Text())
	}
}

// holdOrder: P12.5, no item reads itself, and each one stands in Order behind all that it reads; told by users alone.
func holdOrder(t *testing.T, s *Schema) {
	t.Helper()
	places := make([]int, s.Items())
	for n := range places {
		places[n] = -1
	}
	for place, n := range s.Order() {
		places[n] = place
	}
	for n, place := range places {
		for _, user := range s.Users(n) {
			if place < 0 || places[user] <= place || s.Rank(user) <= s.Rank(n) {
				t.Errorf("%d reads %d; Order is %d, of %q", user, n, s.Order(), s.Text())
			}
		}
	}
	for n, reads := range reachOf(s.Sects()) {
		if reads[n] {
			t.Errorf("%d reads itself in %q", n, s.Text())
		}
	}
}

// A maker makes up definitions: right ones, which it may then spoil.
type maker struct {
	*rand.Rand
	d      api.Def
	sects  []api.Sect
	levels map[[2]int]int // of items, that read only those of lower ones
	loops  bool           // levels say nothing
}

func pick[T any](m *maker, l []T) T { return l[m.Intn(len(l))] }

func (m *maker) typ() api.Type {
	return pick(m, []api.Type{{Kind: api.VNum, Scale: m.Intn(5)}, {Kind: api.VFlag}, {Kind: api.VText}, {Kind: api.VNum, Scale: 2}})
}

// fill puts items and kids into a section. Names are of a depth, so that sections beside each other share them, and those within each other do not.
func (m *maker) fill(s *api.Section, depth int, room *int) {
	for n := range m.Intn(6) {
		item := api.Item{Name: "i" + strconv.Itoa(depth) + "_" + strconv.Itoa(n), Kind: 1 + m.Intn(3)}
		switch item.Kind {
		case api.ItField:
			item.Type, item.Need = m.typ(), m.Intn(3) == 0
		case api.ItLine:
			item.Type = m.typ()
			if item.Type.Kind == api.VNum {
				item.Policy = 1 + m.Intn(5)
			}
		}
		s.Items = append(s.Items, item)
	}
	for n := range m.Intn(4) {
		if *room == 0 || depth == api.MaxDepth {
			return
		}
		*room--
		kid := api.Section{Name: "k" + strconv.Itoa(depth) + "_" + strconv.Itoa(n), Max: 1 + m.Intn(api.MaxRows)}
		m.fill(&kid, depth+1, room)
		s.Kids = append(s.Kids, kid)
	}
}

func dec(n uint64, scale int) api.Dec { return api.Dec{N: api.Nat{n}, Scale: scale} }

// good makes a definition with which nothing is wrong, but that items may read themselves round about, if loops is set.
func (m *maker) good() api.Def {
	m.d = api.Def{Name: "r"}
	room := m.Intn(8)
	m.fill(&m.d.Root, 1, &room)
	for n := range m.Intn(3) {
		table := api.Table{Name: "t" + strconv.Itoa(n)}
		for i := range 1 + m.Intn(3) {
			base := dec(uint64(1+m.Intn(50)), 1)
			base.Neg = m.Intn(2) == 0
			table.Steps = append(table.Steps, api.Step{From: dec(uint64(10*i+m.Intn(9)), 1), Base: base, Rate: dec(uint64(m.Intn(9)), 2)})
		}
		m.d.Tables = append(m.d.Tables, table)
	}
	m.sects, m.levels = scope.Flat(m.d), map[[2]int]int{}
	for n := range m.sects {
		for i := range m.sects[n].Items {
			m.levels[[2]int{n, i}] = m.Intn(1000)
		}
	}
	for n := range m.sects {
		s := partOf(&m.d, n)
		for i := range s.Items {
			m.write(n, i, &s.Items[i])
		}
	}
	m.pages()
	return m.d
}

// write gives a line and a check an expression.
func (m *maker) write(section, place int, item *api.Item) {
	level := m.levels[[2]int{section, place}]
	switch item.Kind {
	case api.ItLine:
		item.Expr = m.expr(section, item.Type.Kind, 3, level)
	case api.ItCheck:
		item.Expr = m.expr(section, api.VFlag, 3, level)
	}
}

func (m *maker) pages() {
	var names []string
	for _, item := range m.d.Root.Items {
		if item.Kind == api.ItField {
			names = append(names, item.Name)
		}
	}
	for _, kid := range m.d.Root.Kids {
		names = append(names, kid.Name)
	}
	for n := range m.Intn(4) {
		page := api.Page{Name: "p" + strconv.Itoa(n)}
		if m.Intn(2) == 0 {
			page.When = m.expr(0, api.VFlag, 2, 1000)
		}
		many := m.Intn(len(names) + 1)
		page.Items, names = names[:many:many], names[many:]
		m.d.Pages = append(m.d.Pages, page)
	}
}

// partOf is the section of a number.
func partOf(d *api.Def, number int) *api.Section {
	var found *api.Section
	n := 0
	var seek func(s *api.Section)
	seek = func(s *api.Section) {
		if n == number {
			found = s
		}
		n++
		for i := range s.Kids {
			seek(&s.Kids[i])
		}
	}
	seek(&d.Root)
	return found
}

func node(kind int, args ...api.Expr) api.Expr { return api.Expr{Kind: kind, Args: args} }

func operation(op int, a, b api.Expr) api.Expr {
	return api.Expr{Kind: api.ExOp, Op: op, Args: []api.Expr{a, b}}
}

// expr makes an expression of a kind, that reads what is below a level.
func (m *maker) expr(section, kind, room, level int) api.Expr {
	sub := func(kind int) api.Expr { return m.expr(section, kind, room-1, level) }
	if room == 0 || m.Intn(3) == 0 {
		return m.leaf(section, kind, level)
	}
	if m.Intn(4) == 0 {
		return node(api.ExIf, sub(api.VFlag), sub(kind), sub(kind))
	}
	switch {
	case kind == api.VNum && m.Intn(4) == 0:
		return api.Expr{Kind: api.ExRound, Scale: m.Intn(19), Policy: 1 + m.Intn(5), Args: []api.Expr{sub(kind)}}
	case kind == api.VNum && m.Intn(4) == 0:
		return node(api.ExNeg, sub(kind))
	case kind == api.VNum && m.Intn(3) == 0 && len(m.d.Tables) > 0:
		return api.Expr{Kind: api.ExBracket, Name: pick(m, m.d.Tables).Name, Args: []api.Expr{sub(kind)}}
	case kind == api.VNum:
		return operation(api.OpAdd+m.Intn(3), sub(kind), sub(kind))
	case kind == api.VFlag && m.Intn(4) == 0:
		return node(api.ExBlank, sub(1+m.Intn(3)))
	case kind == api.VFlag && m.Intn(4) == 0:
		return node(api.ExNot, sub(kind))
	case kind == api.VFlag && m.Intn(3) == 0:
		return operation(api.OpLt+m.Intn(4), sub(api.VNum), sub(api.VNum))
	case kind == api.VFlag && m.Intn(2) == 0:
		of := 1 + m.Intn(3)
		return operation(api.OpEq+m.Intn(2), sub(of), sub(of))
	case kind == api.VFlag:
		return operation(api.OpAnd+m.Intn(2), sub(kind), sub(kind))
	}
	return m.leaf(section, kind, level)
}

func (m *maker) leaf(section, kind, level int) api.Expr {
	value := api.Value{Kind: kind}
	switch kind {
	case api.VNum:
		value.Num = dec(uint64(m.Intn(1000)), m.Intn(4))
	case api.VFlag:
		value.Flag = m.Intn(2) == 0
	case api.VText:
		value.Text = pick(m, []string{"", "a", "// no } comment", "a \"b\" \\ \n"})
	}
	l := []api.Expr{{Kind: api.ExConst, Value: value}}
	for up := section; up >= 0; up = m.sects[up].Parent {
		for i, item := range m.sects[up].Items {
			if item.Kind != api.ItCheck && item.Type.Kind == kind && m.below(up, i, level) {
				l = append(l, api.Expr{Kind: api.ExName, Name: item.Name})
			}
		}
	}
	for n, kid := range m.sects {
		if kind != api.VNum || kid.Parent != section {
			continue
		}
		l = append(l, api.Expr{Kind: api.ExAgg, Op: api.AgRows, Section: kid.Name})
		for i, item := range kid.Items {
			if item.Kind == api.ItCheck || !m.below(n, i, level) {
				continue
			}
			x := api.Expr{Kind: api.ExAgg, Op: api.AgCount, Section: kid.Name, Name: item.Name}
			if item.Type.Kind == api.VNum {
				x.Op = pick(m, []int{api.AgSum, api.AgCount, api.AgMin, api.AgMax})
			}
			l = append(l, x, x)
		}
	}
	return pick(m, l)
}

func (m *maker) below(section, place, level int) bool {
	return m.loops || m.levels[[2]int{section, place}] < level
}

// spoil changes one thing of a definition; that may be right as well.
func (m *maker) spoil(d *api.Def) {
	number := m.Intn(len(m.sects))
	s := partOf(d, number)
	switch m.Intn(10) {
	case 0:
		m.spoilText(d, s)
	case 1:
		if number > 0 {
			s.Max = pick(m, []int{0, 1, 1024, 1025, 1 << 30})
		}
	case 2:
		if number > 0 {
			s.Name = pick(m, []string{"k1_0", "i1_0", "k2_0", "r"})
		}
	case 3, 4:
		if len(d.Tables) > 0 {
			m.spoilTable(&d.Tables[m.Intn(len(d.Tables))])
		}
	case 5, 6:
		if len(d.Pages) > 0 {
			m.spoilPage(&d.Pages[m.Intn(len(d.Pages))])
		}
	default:
		if len(s.Items) > 0 {
			m.spoilItem(number, &s.Items[m.Intn(len(s.Items))])
		}
	}
}

// spoilText makes something of which no text says it.
func (m *maker) spoilText(d *api.Def, s *api.Section) {
	switch m.Intn(5) {
	case 0:
		s.Max = pick(m, []int{-1, 1<<30 + 1})
	case 1:
		s.Name = pick(m, []string{"", "if", "1", "a b"})
	case 2:
		d.Name = pick(m, []string{"", "sum", "1"})
	case 3:
		d.Tables = append(d.Tables, api.Table{Name: "x", Steps: []api.Step{{From: pick(m, []api.Dec{{Neg: true}, dec(1, 19)})}}})
	default:
		for i := range s.Items {
			s.Items[i].Need, s.Items[i].Policy = true, m.Intn(7)
		}
	}
}

func (m *maker) spoilTable(table *api.Table) {
	switch m.Intn(3) {
	case 0:
		table.Name = pick(m, []string{"t0", "t1", "x"})
	case 1:
		table.Steps = pick(m, [][]api.Step{{{}}, make([]api.Step, 2), {{From: dec(1, 0)}, {From: dec(2, 0)}}})
	default:
		table.Steps[m.Intn(len(table.Steps))].From = pick(m, []api.Dec{dec(0, 3), dec(5, 0), dec(1, 18)})
	}
}

func (m *maker) spoilPage(page *api.Page) {
	switch m.Intn(3) {
	case 0:
		page.Name = pick(m, []string{"p0", "p1", "x"})
	case 1:
		page.Items = append(slices.Clone(page.Items), pick(m, []string{"i1_0", "i1_1", "k1_0", "nobody"}))
	default:
		page.When = m.expr(0, 1+m.Intn(3), 2, 1000)
	}
}

func (m *maker) spoilItem(section int, item *api.Item) {
	if m.Intn(4) == 0 {
		item.Name = pick(m, []string{"i1_0", "i2_1", "k1_0", "k2_0", "nobody"})
		return
	}
	if item.Kind == api.ItField {
		item.Type = pick(m, []api.Type{{Kind: api.VNum, Scale: 19}, {Kind: api.VFlag}, {Kind: api.VText}, {Kind: api.VNum, Scale: 1 << 30}})
		return
	}
	switch m.Intn(3) {
	case 0:
		item.Expr = api.Expr{Kind: api.ExName, Name: pick(m, []string{"nobody", "i1_0", "i1_1", "i2_0", item.Name})}
	case 1:
		item.Expr = api.Expr{Kind: api.ExAgg, Op: api.AgSum + m.Intn(4), Section: pick(m, []string{"k1_0", "k2_0", "nobody"}), Name: pick(m, []string{"i2_0", "i2_1", "i3_0"})}
	default:
		item.Expr = m.expr(section, 1+m.Intn(3), 2, 1000)
	}
}

// P12.1 to P12.5: made-up definitions, right ones, ones that go round about, and spoilt ones.
func TestMade(t *testing.T) {
	told := map[string]int{}
	for seed := range int64(1800) {
		m := &maker{Rand: rand.New(rand.NewSource(seed)), loops: seed%3 == 0}
		d := grammar.Clone(m.good())
		for range seed % 4 {
			m.spoil(&d)
		}
		place, want := judged(d)
		told[strconv.Itoa(place.Kind)+" "+strconv.Itoa(int(want))]++
		if want != api.OK && want != api.ErrLong && seed%4 == 0 && !m.loops {
			t.Fatalf("what is made right is not: %+v, %d, %+v", place, want, d)
		}
		if want != api.OK {
			wantRefusedOf(t, d, place, want)
		} else {
			s, p, e := Of(d)
			if s == nil || p != (api.Place{}) || e != api.OK {
				t.Fatalf("Of is %v, %v, %d, of %+v", s, p, e, d)
			}
			hold(t, s, d)
			holdAgain(t, s, d)
			holdOrder(t, s)
		}
		if text, e := grammar.Print(d); e == api.OK {
			m.spreadAll(t, text, want)
		}
	}
	for _, kind := range []string{"0 0", "0 81", "1 5", "1 100", "2 5", "2 92", "3 5", "3 91", "3 100", "3 110", "4 5", "4 91", "4 100"} {
		if told[kind] < 10 {
			t.Errorf("%s: only %d times, of %v", kind, told[kind], told)
		}
	}
}

// spreadAll holds texts of the same words, with whatever blanks, against one another: they are refused at the same word, or have the same Text (P12.4).
func (m *maker) spreadAll(t *testing.T, text string, want api.Errno) {
	t.Helper()
	tokens, _, _ := lex.Scan(text)
	words := textsOf(tokens)
	madeUp := func(i int) string {
		if glued(words, i) {
			return " " + m.blank()
		}
		return m.blank()
	}
	for _, blank := range append(blankings(words), madeUp) {
		same, _ := spread(words, -1, blank)
		if len(same) > api.MaxSource {
			wantRefused(t, same, 0, api.ErrLong)
			continue
		}
		if e := holdText(t, same); e != want {
			t.Errorf("%.2000q is told %d, not %d", same, e, want)
		}
		if s, _, _ := New(same); want == api.OK && s.Text() != text {
			t.Errorf("Text of %.2000q is %.2000q, not %.2000q", same, s.Text(), text)
		}
	}
}

// blank makes up blanks, or none.
func (m *maker) blank() string {
	var l []string
	for range m.Intn(3) {
		l = append(l, pick(m, []string{" ", "\t", "\n", "\r", "//\n", "// } field a : flag ; \"\n"}))
	}
	return strings.Join(l, "")
}

// P12.3: made-up texts, many of which say no definition: words of definitions, changed here and there, and bytes.
func TestMadeTexts(t *testing.T) {
	told := map[api.Errno]int{}
	for seed := range int64(6000) {
		m := &maker{Rand: rand.New(rand.NewSource(seed)), loops: seed%5 == 0}
		text, e := grammar.Print(m.good())
		if e != api.OK {
			continue
		}
		tokens, _, _ := lex.Scan(text)
		words := textsOf(tokens)
		for range m.Intn(3) {
			words = m.change(words)
		}
		text, _ = spread(words, -1, func(int) string { return " " + m.blank() })
		if seed%4 == 0 && len(text) > 0 {
			at := m.Intn(len(text))
			text = text[:at] + pick(m, []string{"", "#", "\x00", "\"", "0", "a", "\xff", "//"}) + text[at+m.Intn(len(text)-at+1)/20:]
		}
		told[holdText(t, text)]++
	}
	for _, e := range []api.Errno{api.OK, api.ErrWord, api.ErrSyntax, api.ErrTwice, api.ErrUnknown, api.ErrKind, api.ErrCycle} {
		if told[e] < 50 {
			t.Errorf("%d: only %d times, of %v", e, told[e], told)
		}
	}
}

// change changes words: one is gone, twice there, another one, or two change their places.
func (m *maker) change(words []string) []string {
	if len(words) == 0 {
		return words
	}
	words = slices.Clone(words)
	a, b := m.Intn(len(words)), m.Intn(len(words))
	switch m.Intn(12) {
	case 0:
		return slices.Delete(words, a, a+1)
	case 1:
		return slices.Insert(words, a, words[b])
	case 2:
		words[a], words[b] = words[b], words[a]
	case 3:
		words[a] = words[b]
	case 4:
		words[a] = pick(m, []string{"i1_0", "i1_1", "k1_0", "true", "1", "19", "{", "}", ";", "=", "section", "needed", "\"x\""})
	default:
		m.changeAlike(words)
	}
	return words
}

// changeAlike puts a name where another one stands, or a number, or a text: such a text may still say a definition.
func (m *maker) changeAlike(words []string) {
	for range 100 {
		a, b := m.Intn(len(words)), m.Intn(len(words))
		name := lex.Name(words[a]) && !scope.Reserved(words[a]) && lex.Name(words[b]) && !scope.Reserved(words[b])
		number := words[a][0] >= '0' && words[a][0] <= '9' && words[b][0] >= '0' && words[b][0] <= '9'
		if words[a] != words[b] && (name || number) {
			words[a] = words[b]
			return
		}
	}
}
