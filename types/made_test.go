package types

import (
	"maps"
	"math/rand"
	"slices"
	"strconv"
	"strings"
	"testing"

	"excise/api"
	"excise/decimal"
	"excise/grammar"
	"excise/scope"
)

// A judge tells kinds by the chapter's words: of each node all that can be said, in their order, of which the first counts.
type judge struct {
	d     api.Def
	l     []api.Sect
	known map[string]int // the lines of suits
}

func newJudge(d api.Def) *judge { return &judge{d, scope.Flat(d), suitsOf()} }

// A verdict is a kind, or an error.
type verdict struct {
	kind int
	e    api.Errno
}

// partsOf are an expression's nodes, each behind its Args.
func partsOf(x api.Expr) []api.Expr {
	var l []api.Expr
	for _, arg := range x.Args {
		l = append(l, partsOf(arg)...)
	}
	return append(l, x)
}

func (j *judge) kind(section int, x api.Expr) verdict {
	if section < 0 || section >= len(j.l) {
		return verdict{0, api.ErrNone}
	}
	l := partsOf(x)
	if len(l) > 64 {
		return verdict{0, api.ErrNodes}
	}
	for _, part := range l {
		if v := j.node(section, part); v.e != api.OK {
			return v
		}
	}
	return j.node(section, x)
}

// node is a node's verdict, its Args having kinds.
func (j *judge) node(section int, x api.Expr) verdict {
	letters := ""
	for _, arg := range x.Args {
		letters += " " + string("?nft"[j.node(section, arg).kind])
	}
	switch x.Kind {
	case api.ExConst, api.ExName, api.ExAgg:
		v := j.leaf(section, x)
		if v.e == api.OK && letters != "" {
			return verdict{0, api.ErrKind}
		}
		return v
	case api.ExRound:
		if x.Scale < 0 || x.Scale > 18 {
			return verdict{0, api.ErrScale}
		}
		if x.Policy < 1 || x.Policy > 5 {
			return verdict{0, api.ErrPolicy}
		}
	case api.ExBracket:
		if !slices.ContainsFunc(j.d.Tables, func(t api.Table) bool { return t.Name == x.Name }) {
			return verdict{0, api.ErrUnknown}
		}
	}
	for word, node := range nodeWords {
		if node.Kind == x.Kind && (x.Kind != api.ExOp || node.Op == x.Op) && j.known[word+letters] != 0 {
			return verdict{j.known[word+letters], api.OK}
		}
	}
	return verdict{0, api.ErrKind}
}

func (j *judge) leaf(section int, x api.Expr) verdict {
	switch x.Kind {
	case api.ExConst:
		if x.Value.Kind == api.VNum && decimal.Check(x.Value.Num) != api.OK {
			return verdict{0, api.ErrDecimal}
		}
		for _, v := range []api.Value{numValue(x.Value.Num), flagValue(x.Value.Flag), textValue(x.Value.Text)} {
			if v == x.Value && len(v.Text) <= 64 {
				return verdict{v.Kind, api.OK}
			}
		}
		return verdict{0, api.ErrKind}
	case api.ExName:
		of, ok := j.meant(section)[x.Name]
		return typed(of, ok)
	}
	kid := slices.IndexFunc(j.l, func(s api.Sect) bool { return s.Parent == section && s.Name == x.Section })
	if kid < 0 {
		return verdict{0, api.ErrUnknown}
	}
	of, ok := firsts(j.l[kid].Items)[x.Name]
	switch {
	case !ok && x.Op != api.AgRows:
		return verdict{0, api.ErrUnknown}
	case x.Op == api.AgRows && x.Name == "", x.Op == api.AgCount, of.Kind == api.VNum && (x.Op == api.AgSum || x.Op == api.AgMin || x.Op == api.AgMax):
		return verdict{api.VNum, api.OK}
	}
	return verdict{0, api.ErrKind}
}

func typed(of api.Type, ok bool) verdict {
	switch {
	case !ok:
		return verdict{0, api.ErrUnknown}
	case of.Kind == api.VNum && of.Scale >= 0 && of.Scale <= 18, of == api.Type{Kind: api.VFlag}, of == api.Type{Kind: api.VText}:
		return verdict{of.Kind, api.OK}
	}
	return verdict{0, api.ErrKind}
}

// firsts are the types of fields and lines by their names, the first one's of each.
func firsts(items []api.Item) map[string]api.Type {
	l := map[string]api.Type{}
	for _, item := range items {
		if _, ok := l[item.Name]; !ok && (item.Kind == api.ItField || item.Kind == api.ItLine) {
			l[item.Name] = item.Type
		}
	}
	return l
}

// meant are the types of what names mean in a section.
func (j *judge) meant(section int) map[string]api.Type {
	s := j.l[section]
	l := map[string]api.Type{}
	if s.Parent >= 0 {
		l = j.meant(s.Parent)
	}
	maps.Copy(l, firsts(s.Items))
	return l
}

// judged is the first thing that is wrong with a definition.
func judged(d api.Def) (api.Place, api.Errno) {
	j := newJudge(d)
	for n, t := range d.Tables {
		if e := judgedTable(t); e != api.OK {
			return atTable(n), e
		}
	}
	for n, s := range j.l {
		for i, item := range s.Items {
			if e := j.item(n, item); e != api.OK {
				return atItem(n, i), e
			}
		}
	}
	for n, p := range d.Pages {
		v := j.kind(0, p.When)
		switch {
		case p.When.Kind == 0 || v.kind == api.VFlag:
		case v.e != api.OK:
			return atPage(n), v.e
		default:
			return atPage(n), api.ErrKind
		}
	}
	return api.Place{}, api.OK
}

func judgedTable(t api.Table) api.Errno {
	rises := true
	for i, s := range t.Steps {
		if decimal.Check(s.From) != api.OK || decimal.Check(s.Base) != api.OK || decimal.Check(s.Rate) != api.OK {
			return api.ErrDecimal
		}
		rises = rises && (i == 0 || decimal.Cmp(t.Steps[i-1].From, s.From) == -1)
	}
	if !rises {
		return api.ErrKind
	}
	return api.OK
}

func (j *judge) item(section int, item api.Item) api.Errno {
	want := item.Type.Kind
	switch item.Kind {
	case api.ItField:
		return typed(item.Type, true).e
	case api.ItLine:
		if e := typed(item.Type, true).e; e != api.OK {
			return e
		}
		if want == api.VNum && !slices.Contains([]int{api.HalfUp, api.HalfEven, api.Down, api.Up, api.Floor}, item.Policy) {
			return api.ErrPolicy
		}
	case api.ItCheck:
		want = api.VFlag
	default:
		return api.ErrKind
	}
	v := j.kind(section, item.Expr)
	if v.e == api.OK && v.kind != want {
		return api.ErrKind
	}
	return v.e
}

// A maker makes up definitions and expressions: right ones, which it may then spoil.
type maker struct {
	*rand.Rand
	d      api.Def
	j      *judge
	sects  int
	consts []api.Value
}

func newMaker(seed int64) *maker {
	return &maker{Rand: rand.New(rand.NewSource(seed)), consts: goodConsts()}
}

// few names, so that they meet
var madeNames = strings.Fields("a b c d e f g h i j")

func (m *maker) name() string { return madeNames[m.Intn(len(madeNames))] }

func pick[T any](m *maker, l []T) T { return l[m.Intn(len(l))] }

func (m *maker) goodType() api.Type {
	return pick(m, []api.Type{{Kind: api.VNum, Scale: m.Intn(19)}, {Kind: api.VFlag}, {Kind: api.VText}})
}

// good makes a definition in which no kind is wrong; names may meet.
func (m *maker) good() api.Def {
	m.d, m.sects = api.Def{Name: m.name()}, 1
	m.fill(&m.d.Root, 1)
	for range m.Intn(4) {
		t := api.Table{Name: m.name()}
		for i := range m.Intn(5) {
			t.Steps = append(t.Steps, api.Step{From: dec(uint64(10*i+m.Intn(10)), 1), Base: pick(m, goodDecs), Rate: pick(m, goodDecs)})
		}
		m.d.Tables = append(m.d.Tables, t)
	}
	m.j = newJudge(m.d)
	for n := range m.j.l {
		s := partOf(&m.d, n)
		for i := range s.Items {
			item := &s.Items[i]
			switch item.Kind {
			case api.ItLine:
				item.Expr = m.shortOf(n, item.Type.Kind)
			case api.ItCheck:
				item.Expr = m.shortOf(n, api.VFlag)
			}
		}
	}
	for range m.Intn(4) {
		m.d.Pages = append(m.d.Pages, api.Page{Name: m.name(), When: pick(m, []api.Expr{{}, m.shortOf(0, api.VFlag)})})
	}
	return m.d
}

func (m *maker) fill(s *api.Section, depth int) {
	for range m.Intn(5) {
		s.Items = append(s.Items, api.Item{Name: m.name(), Kind: 1 + m.Intn(3), Type: m.goodType(), Policy: 1 + m.Intn(5)})
	}
	for range m.Intn(4) * m.Intn(2) {
		if m.sects == api.MaxSections || depth == api.MaxDepth {
			return
		}
		m.sects++
		kid := api.Section{Name: m.name(), Max: 1}
		m.fill(&kid, depth+1)
		s.Kids = append(s.Kids, kid)
	}
}

// shortOf makes an expression of a kind that is not too long.
func (m *maker) shortOf(section, kind int) api.Expr {
	for room := 4; ; room-- {
		if x := m.exprOf(section, kind, room); len(partsOf(x)) <= 64 {
			return x
		}
	}
}

// exprOf makes an expression of a kind.
func (m *maker) exprOf(section, kind, room int) api.Expr {
	if room == 0 || m.Intn(4) == 0 {
		return m.leafOf(section, kind)
	}
	var lines []string
	for line, k := range m.j.known {
		if k == kind {
			lines = append(lines, line)
		}
	}
	slices.Sort(lines)
	words := strings.Fields(pick(m, lines))
	x := nodeWords[words[0]]
	switch x.Kind {
	case api.ExRound:
		x.Scale, x.Policy = m.Intn(19), 1+m.Intn(5)
	case api.ExBracket:
		if len(m.d.Tables) == 0 {
			return m.leafOf(section, kind)
		}
		x.Name = pick(m, m.d.Tables).Name
	}
	for _, letter := range words[1:] {
		x.Args = append(x.Args, m.exprOf(section, kindLetters[letter], min(room-1, 2+m.Intn(2))))
	}
	return x
}

func (m *maker) leafOf(section, kind int) api.Expr {
	l := []api.Expr{}
	for _, v := range m.consts {
		if v.Kind == kind {
			l = append(l, constant(v))
		}
	}
	l = []api.Expr{pick(m, l)}
	names := m.j.meant(section)
	for _, name := range slices.Sorted(maps.Keys(names)) {
		if names[name].Kind == kind {
			l = append(l, reads(name), reads(name))
		}
	}
	if kind == api.VNum {
		l = append(l, m.columnsOf(section)...)
	}
	return pick(m, l)
}

// columnsOf are aggregates over what a section's kids have.
func (m *maker) columnsOf(section int) []api.Expr {
	var l []api.Expr
	done := map[string]bool{}
	for _, kid := range m.j.l {
		if kid.Parent != section || done[kid.Name] {
			continue
		}
		done[kid.Name] = true
		l = append(l, column(api.AgRows, kid.Name, ""))
		items := firsts(kid.Items)
		for _, name := range slices.Sorted(maps.Keys(items)) {
			l = append(l, column(api.AgCount, kid.Name, name))
			if items[name].Kind == api.VNum {
				l = append(l, column(pick(m, []int{api.AgSum, api.AgMin, api.AgMax}), kid.Name, name))
			}
		}
	}
	return l
}

// anyExpr makes whatever expression.
func (m *maker) anyExpr(room int) api.Expr {
	x := api.Expr{Kind: 1 + m.Intn(10), Op: 1 + m.Intn(11), Name: m.name(), Section: m.name(), Policy: 1 + m.Intn(5), Scale: m.Intn(19), Value: pick(m, m.consts)}
	switch m.Intn(12) {
	case 0:
		x.Kind = m.Intn(14) - 1
	case 1:
		x.Op = m.Intn(20) - 1
	case 2:
		x.Kind, x.Policy = api.ExRound, m.Intn(9)-1
	case 3:
		x.Kind, x.Scale = api.ExRound, pick(m, []int{-1, 19, 0, 18})
	case 4:
		x.Kind, x.Value = api.ExConst, pick(m, []api.Value{{}, {Kind: api.VErr, Err: 1}, numValue(badDecs[0]), numValue(badDecs[2]), numValue(badDecs[8]), textValue(strings.Repeat("n", 65)), {Kind: api.VFlag, Err: 1}})
	}
	args := map[int]int{api.ExNeg: 1, api.ExNot: 1, api.ExOp: 2, api.ExIf: 3, api.ExRound: 1, api.ExBracket: 1, api.ExBlank: 1}[x.Kind]
	if x.Kind == api.ExAgg {
		x.Op = api.AgSum + m.Intn(5)
		if x.Op == api.AgRows && m.Intn(4) > 0 {
			x.Name = ""
		}
	}
	if m.Intn(12) == 0 {
		args = m.Intn(5)
	}
	for range args {
		if room == 0 {
			return constant(pick(m, m.consts))
		}
		x.Args = append(x.Args, m.anyExpr(room-1))
	}
	return x
}

// mixed makes an expression of a kind, some part of which is perhaps another one.
func (m *maker) mixed(section, kind int) api.Expr {
	x := grammar.Clone(api.Def{Pages: []api.Page{{When: m.exprOf(section, kind, 5)}}}).Pages[0].When
	at := &x
	for m.Intn(4) > 0 && len(at.Args) > 0 {
		at = &at.Args[m.Intn(len(at.Args))]
	}
	if m.Intn(3) > 0 {
		*at = m.anyExpr(3)
	}
	return x
}

// spoil changes one thing of a definition; that may be right as well.
func (m *maker) spoil(d *api.Def) {
	n := m.Intn(len(m.j.l))
	s := partOf(d, n)
	switch m.Intn(8) {
	case 0:
		if len(d.Tables) > 0 {
			t := &d.Tables[m.Intn(len(d.Tables))]
			for i := range t.Steps {
				if m.Intn(3) == 0 {
					t.Steps[i].From = pick(m, slices.Concat(goodDecs, badDecs))
				}
				if m.Intn(6) == 0 {
					t.Steps[i].Base = pick(m, badDecs)
				}
				if m.Intn(6) == 0 {
					t.Steps[i].Rate = pick(m, badDecs)
				}
			}
		}
	case 1:
		d.Pages = append(d.Pages, api.Page{When: m.mixed(0, 1+m.Intn(3))})
	case 2:
		s.Items = append(s.Items, api.Item{Name: m.name(), Kind: m.Intn(5), Type: pick(m, append(oddTypes, m.goodType())), Expr: m.mixed(n, 1+m.Intn(3))})
	case 3:
		s.Kids = append(s.Kids, api.Section{Name: m.name(), Items: []api.Item{{Name: m.name(), Kind: 1 + m.Intn(2), Type: m.goodType(), Policy: 1 + m.Intn(5), Expr: m.anyExpr(2)}}})
	default:
		if len(s.Items) > 0 {
			m.spoilItem(n, &s.Items[m.Intn(len(s.Items))])
		}
	}
}

func (m *maker) spoilItem(section int, item *api.Item) {
	switch m.Intn(5) {
	case 0:
		item.Kind = m.Intn(5)
	case 1:
		item.Type = pick(m, append(oddTypes, m.goodType()))
	case 2:
		item.Policy = m.Intn(8) - 1
	case 3:
		item.Name = m.name()
	default:
		item.Expr = m.mixed(section, 1+m.Intn(3))
	}
}

// P10.3, P10.6: made-up definitions, right ones and spoilt ones, against the chapter's words; what is taken has kinds that suit.
func TestMadeCheck(t *testing.T) {
	told := map[string]int{}
	for seed := range int64(5000) {
		m := newMaker(seed)
		d := grammar.Clone(m.good())
		for range seed % 4 {
			m.spoil(&d)
		}
		place, want := judged(d)
		wantCheck(t, d, place, want)
		told[strconv.Itoa(place.Kind)+" "+strconv.Itoa(int(want))]++
		if want == api.OK {
			checkSuits(t, d)
		} else if seed%4 == 0 {
			t.Fatalf("what is made right is not: %+v, %d", place, want)
		}
	}
	for _, kind := range []string{"0 0", "1 20", "1 100", "3 100", "3 22", "3 91", "3 20", "3 21", "4 100", "4 91"} {
		if told[kind] < 10 {
			t.Errorf("place and error %s: only %d times", kind, told[kind])
		}
	}
}

// checkSuits: each line of a definition has just its type's kind, each check and each When is a flag (P10.6), and what names mean has types that may be.
func checkSuits(t *testing.T, d api.Def) {
	t.Helper()
	for n, s := range scope.Flat(d) {
		for _, item := range s.Items {
			switch item.Kind {
			case api.ItField:
			case api.ItLine:
				wantKind(t, d, n, item.Expr, item.Type.Kind, api.OK)
			case api.ItCheck:
				wantKind(t, d, n, item.Expr, api.VFlag, api.OK)
			default:
				t.Errorf("an item of the kind %d is taken", item.Kind)
			}
			if item.Kind != api.ItCheck && Type(item.Type) != api.OK {
				t.Errorf("the type %+v is taken", item.Type)
			}
		}
	}
	for _, p := range d.Pages {
		if p.When.Kind != 0 {
			wantKind(t, d, 0, p.When, api.VFlag, api.OK)
		}
	}
}

// P10.2, P10.4: made-up expressions in made-up definitions, against the chapter's words.
func TestMadeKind(t *testing.T) {
	told := map[verdict]int{}
	for seed := range int64(600) {
		m := newMaker(seed)
		d := grammar.Clone(m.good())
		if seed%2 == 0 {
			for range 3 {
				m.spoil(&d)
			}
		}
		j := newJudge(d)
		for range 30 {
			section := m.Intn(len(m.j.l))
			x := m.mixed(section, 1+m.Intn(3))
			for _, at := range []int{section, m.Intn(len(j.l)+2) - 1} {
				want := j.kind(at, x)
				wantKind(t, d, at, x, want.kind, want.e)
				told[want]++
			}
			checkReads(t, x)
		}
	}
	for _, v := range []verdict{{1, 0}, {2, 0}, {3, 0}, {0, api.ErrNone}, {0, api.ErrNodes}, {0, api.ErrKind}, {0, api.ErrUnknown}, {0, api.ErrDecimal}, {0, api.ErrScale}, {0, api.ErrPolicy}} {
		if told[v] < 20 {
			t.Errorf("%+v: only %d times", v, told[v])
		}
	}
}

// checkReads holds Nodes and Reads against a list of all nodes, each ahead of its Args.
func checkReads(t *testing.T, x api.Expr) {
	t.Helper()
	var want []api.Read
	wait := []api.Expr{x}
	nodes := 0
	for ; len(wait) > 0; nodes++ {
		node := wait[0]
		wait = append(slices.Clone(node.Args), wait[1:]...)
		r := read(node.Section, node.Name)
		switch node.Kind {
		case api.ExName:
			r.Section = ""
		case api.ExAgg:
		default:
			continue
		}
		if !slices.Contains(want, r) {
			want = append(want, r)
		}
	}
	if n := Nodes(x); n != nodes {
		t.Errorf("Nodes(%+v) is %d, not %d", x, n, nodes)
	}
	wantReads(t, x, want...)
}

// A track leads from the root to a section, kid by kid.
func trackOf(d api.Def, n int) []int {
	var found []int
	var look func(s api.Section, track []int)
	look = func(s api.Section, track []int) {
		if n == 0 {
			found = slices.Clone(track)
		}
		n--
		for i, kid := range s.Kids {
			look(kid, append(slices.Clip(track), i))
		}
	}
	look(d.Root, nil)
	return found
}

func numberOf(d api.Def, track []int) int {
	for n := 0; ; n++ {
		if slices.Equal(trackOf(d, n), track) {
			return n
		}
	}
}

// more defines one thing more that no name means of what is read in the section to which a track leads, and tells that section's track.
func (m *maker) more(d *api.Def, track []int) []int {
	n := m.Intn(len(scope.Flat(*d)))
	s := partOf(d, n)
	switch m.Intn(6) {
	case 0: // a name that nobody has
		s.Items = slices.Insert(s.Items, m.Intn(len(s.Items)+1), api.Item{Name: "nobody", Kind: m.Intn(5), Type: pick(m, oddTypes), Expr: m.anyExpr(2)})
	case 1: // what can't be read
		s.Items = slices.Insert(s.Items, m.Intn(len(s.Items)+1), api.Item{Name: m.name(), Kind: pick(m, []int{0, api.ItCheck, 4, -1}), Type: m.goodType()})
	case 2: // a name that the section has already
		if names := slices.Sorted(maps.Keys(firsts(s.Items))); len(names) > 0 {
			s.Items = append(s.Items, api.Item{Name: pick(m, names), Kind: 1 + m.Intn(2), Type: pick(m, append(oddTypes, m.goodType()))})
		}
	case 3:
		at := m.Intn(len(s.Kids) + 1)
		into := trackOf(*d, n)
		s.Kids = slices.Insert(s.Kids, at, api.Section{Name: "nobodies", Items: []api.Item{{Name: m.name(), Kind: api.ItField, Type: m.goodType()}}})
		if len(track) > len(into) && slices.Equal(track[:len(into)], into) && track[len(into)] >= at {
			track = slices.Clone(track)
			track[len(into)]++
		}
	case 4:
		d.Tables = slices.Insert(d.Tables, m.Intn(len(d.Tables)+1), api.Table{Name: "nobodies", Steps: make([]api.Step, m.Intn(3))})
		d.Tables = append(d.Tables, api.Table{Name: d.Tables[0].Name})
	case 5:
		d.Pages = slices.Insert(d.Pages, m.Intn(len(d.Pages)+1), api.Page{Name: m.name(), When: m.anyExpr(2), Items: []string{m.name()}})
	}
	return track
}

// P10.5: an expression keeps its kind where more is defined, and its parts have kinds.
func TestMadeStays(t *testing.T) {
	moved := 0
	for seed := range int64(1500) {
		m := newMaker(seed)
		d := grammar.Clone(m.good())
		section, kind := m.Intn(len(m.j.l)), 1+m.Intn(3)
		x := m.exprOf(section, kind, 5)
		if Nodes(x) > api.MaxNodes {
			continue
		}
		wantKind(t, d, section, x, kind, api.OK)
		for _, part := range partsOf(x) {
			if k, e := Kind(d, section, part); e != api.OK || k < api.VNum || k > api.VText {
				t.Errorf("a part, %+v, of %+v: %d, %d", part, x, k, e)
			}
		}
		track := trackOf(d, section)
		for range 8 {
			track = m.more(&d, track)
			at := numberOf(d, track)
			if at != section {
				moved++
			}
			wantKind(t, d, at, x, kind, api.OK)
		}
	}
	if moved < 100 {
		t.Error("the section had another number only so often:", moved)
	}
}

// R1: raw numbers in every field.
func TestRaw(t *testing.T) {
	r := rand.New(rand.NewSource(3))
	raw := func() int { return pick(&maker{Rand: r}, []int{-1 << 63, -1, 0, 1, 2, 3, 5, 10, 12, 16, 1<<63 - 1}) }
	text := func() string { return pick(&maker{Rand: r}, []string{"", "a", "b", "\xff"}) }
	var x func(room int) api.Expr
	x = func(room int) api.Expr {
		v := api.Value{Kind: raw(), Num: api.Dec{Neg: raw() > 0, Scale: raw()}, Flag: raw() > 1, Text: text(), Err: raw()}
		return api.Expr{Kind: raw(), Op: raw(), Name: text(), Section: text(), Value: v, Scale: raw(), Policy: raw(), Args: many(r.Intn(room+1), func(int) api.Expr { return x(room - 1) })}
	}
	var section func(room int) api.Section
	section = func(room int) api.Section {
		items := many(r.Intn(4), func(int) api.Item {
			return api.Item{Name: text(), Kind: raw(), Type: api.Type{Kind: raw(), Scale: raw()}, Need: raw() > 0, Policy: raw(), Expr: x(3)}
		})
		return api.Section{Name: text(), Max: raw(), Items: items, Kids: many(r.Intn(room+1), func(int) api.Section { return section(room - 1) })}
	}
	for range 5000 {
		d := api.Def{Name: text(), Root: section(3)}
		if r.Intn(2) == 0 {
			d.Pages = []api.Page{{When: x(3)}}
		}
		place, want := judged(d)
		wantCheck(t, d, place, want)
		one, at := x(4), raw()
		v := newJudge(d).kind(at, one)
		wantKind(t, d, at, one, v.kind, v.e)
		checkReads(t, one)
	}
}
