package scope

import (
	"math/rand"
	"slices"
	"strconv"
	"testing"

	"excise/api"
	"excise/grammar"
	"excise/lex"
)

// A part is a section of a definition, with the one around it and those of that one's kids that are ahead of it.
type part struct {
	api.Section
	number int
	up     *part
	ahead  []api.Section
}

// partsOf are a definition's sections, each ahead of its kids.
func partsOf(d api.Def) []*part {
	var l []*part
	var add func(p *part)
	add = func(p *part) {
		p.number = len(l)
		l = append(l, p)
		for i, kid := range p.Kids {
			add(&part{Section: kid, up: p, ahead: p.Kids[:i]})
		}
	}
	add(&part{Section: d.Root})
	return l
}

// chain is a section and all those around it, from within.
func (p *part) chain() []*part {
	var l []*part
	for ; p != nil; p = p.up {
		l = append(l, p)
	}
	return l
}

// itemsHave, kidsHave: whether one of a list has a name.
func itemsHave(l []api.Item, name string, kinds ...int) bool {
	return slices.ContainsFunc(l, func(i api.Item) bool {
		return i.Name == name && (len(kinds) == 0 || slices.Contains(kinds, i.Kind))
	})
}

func kidsHave(l []api.Section, name string) bool {
	return slices.ContainsFunc(l, func(s api.Section) bool { return s.Name == name })
}

func mayBe(name string) bool { return lex.Name(name) && !slices.Contains(Words(), name) }

// A wrong is what the chapter calls wrong, and where.
type wrong struct {
	place api.Place
	e     api.Errno
}

// A judge gathers all that is wrong with a definition, by the chapter's words and in their order.
type judge struct {
	d     api.Def
	parts []*part
	found []wrong
}

func (j *judge) tell(place api.Place, e api.Errno, is bool) {
	if is {
		j.found = append(j.found, wrong{place, e})
	}
}

// judged is the first thing that is wrong with a definition.
func judged(d api.Def) wrong {
	j := &judge{d: d, parts: partsOf(d)}
	j.tell(api.Place{}, api.ErrNamed, !mayBe(d.Name))
	j.tell(api.Place{}, api.ErrSize, len(d.Tables) > 8 || len(j.parts) > 16 || len(d.Pages) > 16)
	for _, p := range j.parts {
		j.tell(api.Place{}, api.ErrSize, len(p.chain()) > 4)
	}
	for n, t := range d.Tables {
		j.tell(atTable(n), api.ErrNamed, !mayBe(t.Name))
		j.tell(atTable(n), api.ErrTwice, slices.ContainsFunc(d.Tables[:n], func(u api.Table) bool { return u.Name == t.Name }))
		j.tell(atTable(n), api.ErrSize, len(t.Steps) == 0 || len(t.Steps) > 32)
	}
	for _, p := range j.parts {
		j.section(p)
		for i, item := range p.Items {
			j.item(p, i, item.Name)
		}
	}
	for _, p := range j.parts {
		for i, item := range p.Items {
			j.tell(atItem(p.number, i), api.ErrUnknown, item.Kind != api.ItField && j.lacks(p, item.Expr))
		}
	}
	for n := range d.Pages {
		j.page(n)
	}
	return append(j.found, wrong{})[0]
}

func (j *judge) section(p *part) {
	at := atSection(p.number)
	if p.up == nil {
		j.tell(at, api.ErrNamed, p.Name != "")
		j.tell(at, api.ErrSize, len(p.Items) > 64 || p.Max != 0)
		return
	}
	j.tell(at, api.ErrNamed, !mayBe(p.Name))
	j.tell(at, api.ErrTwice, kidsHave(p.ahead, p.Name))
	for _, around := range p.up.chain() {
		j.tell(at, api.ErrTwice, around.Name == p.Name || itemsHave(around.Items, p.Name))
	}
	j.tell(at, api.ErrSize, len(p.Items) > 64 || p.Max < 1 || p.Max > 1024)
}

func (j *judge) item(p *part, i int, name string) {
	at := atItem(p.number, i)
	j.tell(at, api.ErrNamed, !mayBe(name))
	j.tell(at, api.ErrTwice, itemsHave(p.Items[:i], name))
	for _, around := range p.chain() {
		j.tell(at, api.ErrTwice, around.Name == name || around != p && itemsHave(around.Items, name))
	}
}

func (j *judge) page(n int) {
	p, at := j.d.Pages[n], atPage(n)
	j.tell(at, api.ErrNamed, !mayBe(p.Name))
	var before []string
	for _, other := range j.d.Pages[:n] {
		j.tell(at, api.ErrTwice, other.Name == p.Name)
		before = append(before, other.Items...)
	}
	j.tell(at, api.ErrSize, len(p.Items) > 64)
	j.tell(at, api.ErrUnknown, j.lacks(j.parts[0], p.When))
	for i, name := range p.Items {
		j.tell(at, api.ErrUnknown, !itemsHave(j.d.Root.Items, name, api.ItField) && !kidsHave(j.d.Root.Kids, name))
		j.tell(at, api.ErrTwice, slices.Contains(before, name) || slices.Contains(p.Items[:i], name))
	}
}

// lacks: whether an expression reads, in a section, what there is not.
func (j *judge) lacks(p *part, x api.Expr) bool {
	bad := false
	switch x.Kind {
	case api.ExName:
		bad = !slices.ContainsFunc(p.chain(), func(q *part) bool { return itemsHave(q.Items, x.Name, api.ItField, api.ItLine) })
	case api.ExAgg:
		kid := slices.IndexFunc(p.Kids, func(s api.Section) bool { return s.Name == x.Section })
		bad = kid < 0 || x.Op != api.AgRows && !itemsHave(p.Kids[kid].Items, x.Name, api.ItField, api.ItLine)
	case api.ExBracket:
		bad = !slices.ContainsFunc(j.d.Tables, func(t api.Table) bool { return t.Name == x.Name })
	}
	return bad || slices.ContainsFunc(x.Args, func(arg api.Expr) bool { return j.lacks(p, arg) })
}

// A maker makes up definitions: right ones, which it may then spoil.
type maker struct {
	*rand.Rand
	d     api.Def
	sects int
}

func newMaker(seed int64) *maker { return &maker{Rand: rand.New(rand.NewSource(seed))} }

// few names, so that they meet
var madeNames = []string{"a", "b", "c", "d", "e", "f", "g", "h", "i", "j", "k", "l", "m", "n", "sums", "Max", "_"}

func (m *maker) name() string { return madeNames[m.Intn(len(madeNames))] }

// unlike is a name that is none of those.
func (m *maker) unlike(taken []string) string {
	for n := 0; ; n++ {
		name := m.name()
		if n > 100 {
			name = fresh(n)
		}
		if !slices.Contains(taken, name) {
			return name
		}
	}
}

// good makes a definition in which nothing is wrong.
func (m *maker) good() api.Def {
	m.d, m.sects = api.Def{Name: m.name()}, 1
	m.fill(&m.d.Root, nil, 1)
	var names []string
	for range m.Intn(4) {
		names = append(names, m.unlike(names))
		m.d.Tables = append(m.d.Tables, api.Table{Name: names[len(names)-1], Steps: make([]api.Step, 1+m.Intn(32))})
	}
	parts := partsOf(m.d)
	for _, p := range parts {
		section := partOf(&m.d, p.number)
		for i := range section.Items {
			section.Items[i].Expr = m.expr(p, 3)
		}
	}
	m.pages(parts[0])
	return m.d
}

// fill makes a section's items and kids, whose names are none of those.
func (m *maker) fill(s *api.Section, taken []string, depth int) {
	for range m.Intn(5) {
		s.Items = append(s.Items, api.Item{Name: m.unlike(taken), Kind: 1 + m.Intn(3), Type: api.Type{Kind: 1 + m.Intn(3)}})
		taken = append(taken, s.Items[len(s.Items)-1].Name)
	}
	var kids []string
	for range m.Intn(4) * m.Intn(2) {
		if m.sects == api.MaxSections || depth == api.MaxDepth {
			return
		}
		m.sects++
		name := m.unlike(append(slices.Clip(taken), kids...))
		kids = append(kids, name)
		kid := api.Section{Name: name, Max: 1 + m.Intn(1024)}
		m.fill(&kid, append(slices.Clip(taken), name), depth+1)
		s.Kids = append(s.Kids, kid)
	}
}

func (m *maker) pages(root *part) {
	var names, free []string
	for _, item := range root.Items {
		if item.Kind == api.ItField {
			free = append(free, item.Name)
		}
	}
	for _, kid := range root.Kids {
		free = append(free, kid.Name)
	}
	m.Shuffle(len(free), func(i, j int) { free[i], free[j] = free[j], free[i] })
	for range m.Intn(4) {
		names = append(names, m.unlike(names))
		p := api.Page{Name: names[len(names)-1], When: m.expr(root, 2)}
		n := m.Intn(len(free) + 1)
		p.Items, free = slices.Clone(free[:n]), free[n:]
		m.d.Pages = append(m.d.Pages, p)
	}
}

// expr makes an expression that reads, in a section, what there is.
func (m *maker) expr(p *part, room int) api.Expr {
	x := api.Expr{Kind: m.Intn(11), Op: m.Intn(17), Name: m.name(), Section: m.name()}
	switch x.Kind {
	case api.ExName:
		x = m.nameIn(p)
	case api.ExAgg:
		x = m.columnIn(p, x.Op)
	case api.ExBracket:
		if len(m.d.Tables) == 0 {
			x.Kind = api.ExNeg
		} else {
			x.Name = m.d.Tables[m.Intn(len(m.d.Tables))].Name
		}
	}
	for room > 0 && m.Intn(2) == 0 {
		room--
		x.Args = append(x.Args, m.expr(p, room))
	}
	return x
}

func (m *maker) nameIn(p *part) api.Expr {
	var names []string
	for _, around := range p.chain() {
		names = append(names, readable(around.Items)...)
	}
	if len(names) == 0 {
		return api.Expr{Kind: api.ExConst}
	}
	return reads(names[m.Intn(len(names))])
}

func (m *maker) columnIn(p *part, op int) api.Expr {
	if len(p.Kids) == 0 {
		return api.Expr{Kind: api.ExConst}
	}
	kid := p.Kids[m.Intn(len(p.Kids))]
	names := readable(kid.Items)
	if len(names) == 0 {
		return column(api.AgRows, kid.Name, m.name())
	}
	return column(op, kid.Name, names[m.Intn(len(names))])
}

func readable(l []api.Item) []string {
	var names []string
	for _, item := range l {
		if item.Kind == api.ItField || item.Kind == api.ItLine {
			names = append(names, item.Name)
		}
	}
	return names
}

// anyName is a name that there may be or not, and sometimes one that may not be.
func (m *maker) anyName() string {
	if m.Intn(12) == 0 {
		return []string{"", "sum", "9", "half_up"}[m.Intn(4)]
	}
	return m.name()
}

// spoil changes one thing of a definition; that may be right as well.
func (m *maker) spoil(d *api.Def) {
	parts := partsOf(*d)
	s := partOf(d, m.Intn(len(parts)))
	switch m.Intn(14) {
	case 0:
		d.Name = m.anyName()
	case 1:
		d.Tables = append(d.Tables, api.Table{Name: m.anyName(), Steps: make([]api.Step, 1)})
	case 2:
		if len(d.Tables) > 0 {
			d.Tables[m.Intn(len(d.Tables))] = api.Table{Name: m.name(), Steps: make([]api.Step, m.Intn(35))}
		}
	case 3:
		d.Pages = append(d.Pages, api.Page{Name: m.anyName(), Items: []string{m.name()}})
	case 4, 5:
		if len(d.Pages) > 0 {
			p := &d.Pages[m.Intn(len(d.Pages))]
			p.Items = append(slices.Clip(p.Items), m.name())
		}
	case 6:
		if len(d.Pages) > 0 {
			d.Pages[m.Intn(len(d.Pages))].When = api.Expr{Kind: api.ExNot, Args: []api.Expr{m.anyExpr()}}
		}
	case 7:
		s.Name = m.anyName()
	case 8:
		s.Max = m.Intn(1030)
	case 9:
		s.Kids = append(slices.Clip(s.Kids), section(m.anyName()))
	case 10:
		s.Items = append(slices.Clip(s.Items), api.Item{Name: m.anyName(), Kind: m.Intn(5), Expr: m.anyExpr()})
	default:
		if len(s.Items) > 0 {
			i := m.Intn(len(s.Items))
			s.Items[i] = api.Item{Name: []string{s.Items[i].Name, m.anyName()}[m.Intn(2)], Kind: m.Intn(5), Expr: m.anyExpr()}
		}
	}
}

func (m *maker) anyExpr() api.Expr {
	x := api.Expr{Kind: m.Intn(12), Op: m.Intn(17), Name: m.name(), Section: m.name()}
	for m.Intn(3) == 0 {
		x.Args = append(x.Args, m.anyExpr())
	}
	return x
}

// P9.3: made-up definitions, right ones and spoilt ones, against the chapter's words.
func TestMade(t *testing.T) {
	told := map[string]int{}
	for seed := range int64(6000) {
		m := newMaker(seed)
		d := grammar.Clone(m.good())
		for range seed % 4 {
			m.spoil(&d)
		}
		want := judged(d)
		wantCheck(t, d, want.place, want.e)
		told[strconv.Itoa(want.place.Kind)+" "+strconv.Itoa(int(want.e))]++
		if want.e == api.OK {
			checkMeaning(t, d)
			checkStays(t, m, d)
		} else if seed%4 == 0 {
			t.Fatalf("what is made right is not: %+v", want)
		}
	}
	for _, kind := range []string{"0 0", "0 90", "0 92", "1 90", "1 5", "1 92", "2 90", "2 5", "2 92", "3 90", "3 5", "3 91", "4 90", "4 5", "4 91"} {
		if told[kind] < 10 {
			t.Errorf("place and error %s: only %d times", kind, told[kind])
		}
	}
}

// checkMeaning holds what a definition's names mean against a count of all that has them (P9.4), and against Find, Kid, Kids and Table (P9.1, P9.2).
func checkMeaning(t *testing.T, d api.Def) {
	t.Helper()
	l, parts := Flat(d), partsOf(d)
	if len(l) != len(parts) {
		t.Fatalf("%d sections, not %d", len(l), len(parts))
	}
	for _, p := range parts {
		for _, name := range madeNames {
			checkName(t, l, parts, p, name)
		}
	}
	for _, name := range madeNames {
		checkOutside(t, d, name)
	}
}

// checkName: in a section a name is at most one thing's, an item's or a section's of those around it, or a kid's.
func checkName(t *testing.T, l []api.Sect, parts []*part, p *part, name string) {
	t.Helper()
	things, found, kid := 0, wrong{}, 0
	for _, around := range p.chain() {
		if around.Name == name {
			things++
		}
		for i, item := range around.Items {
			if item.Name == name {
				things++
				if item.Kind == api.ItField || item.Kind == api.ItLine {
					found.place = atItem(around.number, i)
				}
			}
		}
	}
	for _, q := range parts {
		if q.up == p && q.Name == name {
			things++
			kid = q.number
		}
	}
	if things > 1 {
		t.Errorf("in section %d the name %q means %d things of %+v", p.number, name, things, l)
	}
	wantFound(t, l, p.number, name, found.place.Section, found.place.Item, found.place.Kind == api.PlItem)
	if n, ok := Kid(l, p.number, name); n != kid || ok != (kid > 0) || ok && !slices.Contains(Kids(l, p.number), n) {
		t.Errorf("Kid(.., %d, %q) is %d, %t, not %d", p.number, name, n, ok, kid)
	}
}

// checkOutside: a name is at most one table's, and one page's, and stands on at most one page, as one thing.
func checkOutside(t *testing.T, d api.Def, name string) {
	t.Helper()
	tables, pages, shown, at := 0, 0, 0, 0
	for n, table := range d.Tables {
		if table.Name == name {
			tables++
			at = n
		}
	}
	for _, p := range d.Pages {
		if p.Name == name {
			pages++
		}
		for _, item := range p.Items {
			if item == name {
				shown++
			}
		}
	}
	if tables > 1 || pages > 1 || shown > 1 {
		t.Errorf("%q is %d tables', %d pages', and stands on pages %d times: %+v", name, tables, pages, shown, d)
	}
	if n, ok := Table(d, name); n != at || ok != (tables == 1) {
		t.Errorf("Table(.., %q) is %d, %t", name, n, ok)
	}
}

// checkStays: what was taken is taken with more at the end (P9.5), as long as there is room.
func checkStays(t *testing.T, m *maker, d api.Def) {
	t.Helper()
	name := "nobody_has_it"
	nothing := api.Expr{Kind: m.Intn(2), Op: m.Intn(17), Value: api.Value{Kind: api.VText, Text: "a"}}
	nothing = api.Expr{Kind: []int{api.ExNeg, api.ExIf, api.ExConst}[m.Intn(3)], Args: []api.Expr{nothing}}
	for n := range partsOf(d) {
		more := grammar.Clone(d)
		s := partOf(&more, n)
		s.Items = append(s.Items, api.Item{Name: name, Kind: 1 + m.Intn(3), Expr: nothing})
		wantTaken(t, more)
	}
	more := grammar.Clone(d)
	more.Pages = append(more.Pages, api.Page{Name: name, When: nothing})
	wantTaken(t, more)
	more.Tables = append(more.Tables, api.Table{Name: name, Steps: make([]api.Step, 1+m.Intn(32))})
	wantTaken(t, more)
}
