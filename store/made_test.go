package store_test

import (
	"math"
	"math/rand/v2"
	"slices"
	"strconv"
	"strings"
	"testing"

	"excise/api"
	"excise/schema"
	"excise/store"
	"excise/types"
)

// What the chapter's words say of a return, slowly and plainly: rows hold rows, and are looked for one by one.

type saidRow struct {
	address api.Row
	values  map[int]api.Value
	kids    map[int][]*saidRow
}

type said struct {
	sects []api.Sect
	root  *saidRow
	next  int64
}

func saidOf(sects []api.Sect) *said {
	return &said{sects: sects, root: newSaid(api.Row{}), next: 1}
}

func newSaid(r api.Row) *saidRow {
	return &saidRow{address: r, values: map[int]api.Value{}, kids: map[int][]*saidRow{}}
}

// each goes through rows, each ahead of those within it.
func (m *said) each(at *saidRow, do func(*saidRow)) {
	do(at)
	for n, sect := range m.sects {
		if sect.Parent == at.address.Section {
			for _, kid := range at.kids[n] {
				m.each(kid, do)
			}
		}
	}
}

func (m *said) all() []*saidRow {
	var list []*saidRow
	m.each(m.root, func(r *saidRow) { list = append(list, r) })
	return list
}

func (m *said) find(r api.Row) *saidRow {
	list := m.all()
	n := slices.IndexFunc(list, func(s *saidRow) bool { return s.address == r })
	if n < 0 {
		return nil
	}
	return list[n]
}

// stands is the row around a row, and its place there.
func (m *said) stands(r api.Row) (*saidRow, int) {
	for _, around := range m.all() {
		n := slices.IndexFunc(around.kids[r.Section], func(s *saidRow) bool { return s.address == r })
		if n >= 0 {
			return around, n
		}
	}
	return nil, 0
}

func (m *said) isKid(at api.Row, section int) bool {
	return section > 0 && section < len(m.sects) && m.sects[section].Parent == at.Section
}

func (m *said) insert(at api.Row, section, place int) (api.Row, api.Errno) {
	around := m.find(at)
	if around == nil {
		return api.Row{}, api.ErrNone
	}
	if !m.isKid(at, section) {
		return api.Row{}, api.ErrArg
	}
	list := around.kids[section]
	if len(list) == m.sects[section].Max || len(m.all())-1 == 4096 {
		return api.Row{}, api.ErrFull
	}
	if place < 0 || place > len(list) {
		return api.Row{}, api.ErrArg
	}
	r := at
	r.Section = section
	r.Ids[m.sects[at.Section].Depth-1] = m.next
	m.next++
	around.kids[section] = slices.Insert(list, place, newSaid(r))
	return r, api.OK
}

func (m *said) delete(r api.Row) api.Errno {
	if m.find(r) == nil {
		return api.ErrNone
	}
	if r == root {
		return api.ErrArg
	}
	around, n := m.stands(r)
	around.kids[r.Section] = slices.Delete(around.kids[r.Section], n, n+1)
	return api.OK
}

func (m *said) move(r api.Row, to int) (int, api.Errno) {
	found := m.find(r)
	if found == nil {
		return 0, api.ErrNone
	}
	if r == root {
		return 0, api.ErrArg
	}
	around, n := m.stands(r)
	list := around.kids[r.Section]
	if to < 0 || to > len(list)-1 {
		return 0, api.ErrArg
	}
	around.kids[r.Section] = slices.Insert(slices.Delete(list, n, n+1), to, found)
	return n, api.OK
}

func (m *said) cell(c api.Cell) (*saidRow, api.Item, api.Errno) {
	found := m.find(c.Row)
	if found == nil {
		return nil, api.Item{}, api.ErrNone
	}
	items := m.sects[c.Row.Section].Items
	if c.Item < 0 || c.Item >= len(items) || items[c.Item].Kind != api.ItField {
		return nil, api.Item{}, api.ErrArg
	}
	return found, items[c.Item], api.OK
}

func (m *said) set(c api.Cell, v api.Value) api.Errno {
	found, item, e := m.cell(c)
	if e != api.OK {
		return e
	}
	if v.Kind == api.VBlank || !types.Fits(v, item.Type) {
		return api.ErrKind
	}
	found.values[c.Item] = v
	return api.OK
}

func (m *said) clear(c api.Cell) api.Errno {
	found, _, e := m.cell(c)
	if e == api.OK {
		delete(found.values, c.Item)
	}
	return e
}

func (m *said) get(c api.Cell) (api.Value, api.Errno) {
	found, _, e := m.cell(c)
	if e != api.OK {
		return api.Value{}, e
	}
	return found.values[c.Item], api.OK
}

func (m *said) plain(at *saidRow) api.Inst {
	var i api.Inst
	for n, item := range m.sects[at.address.Section].Items {
		if item.Kind == api.ItField {
			i.Values = append(i.Values, at.values[n])
		}
	}
	for n, sect := range m.sects {
		if sect.Parent == at.address.Section {
			var list []api.Inst
			for _, kid := range at.kids[n] {
				list = append(list, m.plain(kid))
			}
			i.Kids = append(i.Kids, list)
		}
	}
	return i
}

// hold holds all that a return tells against the words: of rows that are there, and of those that are handed in besides.
func (m *said) hold(t *testing.T, x *store.Store, others ...api.Row) {
	t.Helper()
	var want []api.Row
	for _, r := range m.all() {
		want = append(want, r.address)
		place := 0
		if r != m.root {
			_, place = m.stands(r.address)
		}
		if got, ok := x.Place(r.address); got != place || !ok || !x.Has(r.address) {
			t.Fatalf("Place(%v): %d %v, not %d", r.address, got, ok, place)
		}
		m.holdRow(t, x, r)
	}
	if got := slices.Collect(x.All()); !slices.Equal(got, want) {
		t.Fatalf("All: %v, not %v", got, want)
	}
	if x.Len() != len(want)-1 || x.Next() != m.next {
		t.Fatalf("Len, Next: %d %d, not %d %d", x.Len(), x.Next(), len(want)-1, m.next)
	}
	if got, want := x.Plain(), m.plain(m.root); !is(got, want) || !store.Same(got, want) {
		t.Fatalf("Plain: %v, not %v", got, want)
	}
	for _, r := range others {
		if place, ok := x.Place(r); ok != slices.Contains(want, r) || x.Has(r) != ok || !ok && place != 0 {
			t.Fatalf("Place(%v): %d %v", r, place, ok)
		}
	}
}

// holdRow holds the rows and the values of one row against the words.
func (m *said) holdRow(t *testing.T, x *store.Store, r *saidRow) {
	t.Helper()
	for section := -1; section <= len(m.sects); section++ {
		var want []api.Row
		for _, kid := range r.kids[section] {
			want = append(want, kid.address)
		}
		if got := x.Rows(r.address, section); !slices.Equal(got, want) {
			t.Fatalf("Rows(%v, %d): %v, not %v", r.address, section, got, want)
		}
	}
	for item := -1; item <= len(m.sects[r.address.Section].Items); item++ {
		want, wrong := m.get(cell(r.address, item))
		if got, e := x.Get(cell(r.address, item)); got != want || e != wrong {
			t.Fatalf("Get(%v, %d): %v %d, not %v %d", r.address, item, got, e, want, wrong)
		}
	}
}

// maker makes up definitions and calls.
type maker struct{ *rand.Rand }

func (m maker) pick(l ...int) int { return l[m.IntN(len(l))] }

// schema is of sections within one another, at most as deep as there may be, with some items of each kind.
func (m maker) schema(t *testing.T) *schema.Schema {
	t.Helper()
	var b strings.Builder
	names, room := 0, m.pick(0, 2, 3, 5, 7, 9, api.MaxSections-1, api.MaxSections-1)
	name := func() string { names++; return "n" + strconv.Itoa(names) }
	var body func(depth int)
	body = func(depth int) {
		for range m.pick(0, 1, 1, 2, 3, 5) {
			b.WriteString(strings.Replace([]string{"field @ : flag ;", "field @ : text needed ;", "field @ : amount 0 ;", "field @ : amount 2 needed ;", "field @ : amount 18 ;", "line @ : flag = true ;", "line @ : amount 2 up = 1 ;", "check @ = false ;"}[m.IntN(8)], "@", name(), 1))
		}
		for depth < api.MaxDepth && room > 0 && (depth == 1 || m.IntN(3) > 0) {
			room--
			b.WriteString("section " + name() + " max " + strconv.Itoa(m.pick(1, 2, 4, 12, 12, api.MaxRows)) + " {")
			body(depth + 1)
			b.WriteString("}")
		}
	}
	body(1)
	return schemaOf(t, "return r {"+b.String()+"}")
}

// run is calls of a return and of what the words say, side by side.
type run struct {
	maker
	t    *testing.T
	x    *store.Store
	said *said
	ever []api.Row // each row that was ever put in, and the root
}

// row is one that is there, one that was, or one that is changed a bit.
func (m *run) row() api.Row {
	if list := m.said.all(); m.IntN(8) > 0 {
		return list[m.IntN(len(list))].address
	}
	r := m.ever[m.IntN(len(m.ever))]
	switch m.IntN(6) {
	case 0:
		r.Section = m.IntN(len(m.said.sects)+2) - 1
	case 1:
		r.Ids[m.IntN(len(r.Ids))] = int64(m.IntN(int(m.said.next)+2)) - 1
	case 2:
		r.Ids[m.IntN(len(r.Ids))] = []int64{math.MinInt64, -1, 0, api.MaxId, api.MaxId + 1, math.MaxInt64}[m.IntN(6)]
	}
	return r
}

func (m *run) place(many int) int {
	if m.IntN(10) == 0 {
		return m.pick(-1, many, many+1, many+2, math.MinInt, math.MaxInt)
	}
	return m.IntN(many + 1)
}

func (m *run) section(at api.Row) int {
	var kids []int
	for n := range m.said.sects {
		if m.said.isKid(at, n) {
			kids = append(kids, n)
		}
	}
	if len(kids) == 0 || m.IntN(10) == 0 {
		return m.pick(at.Section, 0, -1, m.IntN(len(m.said.sects)), len(m.said.sects), math.MinInt, math.MaxInt)
	}
	return m.pick(kids...)
}

func (m *run) cell() api.Cell {
	c := cell(m.row(), m.pick(-1, m.IntN(api.MaxItems), math.MinInt, math.MaxInt))
	if c.Row.Section >= 0 && c.Row.Section < len(m.said.sects) && m.IntN(8) > 0 {
		c.Item = m.IntN(len(m.said.sects[c.Row.Section].Items) + 1)
	}
	if _, _, e := m.said.cell(c); e != api.OK && m.IntN(3) > 0 {
		return m.cell()
	}
	return c
}

// value is mostly one that suits the cell.
func (m *run) value(c api.Cell) api.Value {
	_, item, e := m.said.cell(c)
	if e != api.OK || m.IntN(5) == 0 {
		item.Type = api.Type{Kind: m.pick(0, 1, 2, 3, 4, 5, -1), Scale: m.pick(0, 1, 2, 18)}
	}
	v := api.Value{Kind: item.Type.Kind}
	switch v.Kind {
	case api.VNum:
		v = num(m.t, m.Int64N(2000)-1000, item.Type.Scale)
	case api.VFlag:
		v.Flag = m.IntN(2) == 0
	case api.VText:
		v.Text = strings.Repeat("x", m.pick(0, 1, 2, 64, 65))
	case api.VErr:
		v.Err = api.EvNone
	}
	if m.IntN(20) == 0 {
		v.Err = m.pick(0, 1, -1)
		v.Flag = m.IntN(2) == 0
	}
	return v
}

// step does one call on both sides, and holds the answers against each other; it tells whether it was refused.
func (m *run) step() bool {
	m.t.Helper()
	wrong := api.OK
	switch m.IntN(15) {
	case 0, 1, 2, 3, 4, 5:
		wrong = m.stepInsert()
	case 6:
		r := m.row()
		if m.said.find(r) != nil && m.IntN(4) > 0 {
			break // what is taken away takes much with it
		}
		wrong = m.said.delete(r)
		if e := m.x.Delete(r); e != wrong {
			m.t.Fatalf("Delete(%v): %d, not %d", r, e, wrong)
		}
	case 7, 8, 9:
		wrong = m.stepMove()
	case 10, 11, 12, 13:
		c := m.cell()
		v := m.value(c)
		wrong = m.said.set(c, v)
		if e := m.x.Set(c, v); e != wrong {
			m.t.Fatalf("Set(%v, %v): %d, not %d", c, v, e, wrong)
		}
	case 14:
		c := m.cell()
		want, no := m.said.get(c)
		if v, e := m.x.Get(c); v != want || e != no {
			m.t.Fatalf("Get(%v): %v %d, not %v %d", c, v, e, want, no)
		}
		wrong = m.said.clear(c)
		if e := m.x.Clear(c); e != wrong {
			m.t.Fatalf("Clear(%v): %d, not %d", c, e, wrong)
		}
	}
	return wrong != api.OK
}

func (m *run) stepInsert() api.Errno {
	m.t.Helper()
	at := m.row()
	for range 9 {
		if slices.ContainsFunc(m.said.sects, func(s api.Sect) bool { return s.Parent == at.Section }) {
			break
		}
		at = m.row()
	}
	section := m.section(at)
	place := m.place(len(m.x.Rows(at, section)))
	want, wrong := m.said.insert(at, section, place)
	r, e := m.x.Insert(at, section, place)
	if r != want || e != wrong {
		m.t.Fatalf("Insert(%v, %d, %d): %v %d, not %v %d", at, section, place, r, e, want, wrong)
	}
	if e == api.OK {
		m.ever = append(m.ever, r)
	}
	return wrong
}

func (m *run) stepMove() api.Errno {
	m.t.Helper()
	r := m.row()
	if r == root {
		r = m.row()
	}
	many := 1
	if around, _ := m.said.stands(r); around != nil {
		many = len(around.kids[r.Section])
	}
	to := m.place(many - 1)
	want, wrong := m.said.move(r, to)
	if was, e := m.x.Move(r, to); was != want || e != wrong {
		m.t.Fatalf("Move(%v, %d): %d %d, not %d %d", r, to, was, e, want, wrong)
	}
	return wrong
}

// ids holds P16.8: each row that was ever put in has an id of its own.
func (m *run) ids() {
	m.t.Helper()
	for n, r := range m.ever {
		if n > 0 && r.Ids[m.said.sects[r.Section].Depth-2] != int64(n) {
			m.t.Fatalf("the row %d that was put in is %v", n, r)
		}
	}
}

// refill holds P16.7: Fill of a return's Plain has that Plain, and ids by places.
func (m *run) refill() {
	m.t.Helper()
	i := m.x.Plain()
	y, e := store.Fill(m.x.Schema(), i)
	if e != api.OK || !is(y.Plain(), i) || y.Len() != m.x.Len() || y.Next() != int64(m.x.Len()+1) {
		m.t.Fatalf("Fill of %v: %d", i, e)
	}
	list := slices.Collect(m.x.All())
	for n, r := range slices.Collect(y.All()) {
		depth := m.said.sects[r.Section].Depth
		if r.Section != list[n].Section || depth > 1 && r.Ids[depth-2] != int64(n) {
			m.t.Fatalf("All of Fill: %v at %d", r, n)
		}
	}
}

func TestMade(t *testing.T) {
	did, no, most := 0, 0, 0
	for seed := range uint64(250) {
		m := &run{maker: maker{rand.New(rand.NewPCG(seed, 16))}, t: t, ever: []api.Row{root}}
		s := m.schema(t)
		x, e := store.New(s)
		if e != api.OK {
			t.Fatal("New", e)
		}
		m.x, m.said = x, saidOf(s.Sects())
		steps := m.pick(20, 100, 600)
		for n := range steps {
			if m.step() {
				no++
			}
			did++
			if n%(1+steps/15) == 0 {
				m.said.hold(t, m.x, m.ever...)
				m.x = m.x.Clone()
				m.ids()
				m.refill()
			}
		}
		m.said.hold(t, m.x, m.ever...)
		most = max(most, m.x.Len())
	}
	if no < did/5 || no > did/2 || most < 80 {
		t.Error("the runs are too tame, or too wild", did, no, most)
	}
}

// TestMadeRefused is P16.5: behind each call that is refused all is as it was.
func TestMadeRefused(t *testing.T) {
	for seed := range uint64(60) {
		m := &run{maker: maker{rand.New(rand.NewPCG(seed, 165))}, t: t, ever: []api.Row{root}}
		s := m.schema(t)
		m.x, _ = store.New(s)
		m.said = saidOf(s.Sects())
		for range 80 {
			before := look(t, m.x)
			if m.step() && !alike(before, look(t, m.x)) {
				t.Fatalf("refused, but changed: %v to %v", before, look(t, m.x))
			}
		}
	}
}

// TestMadeUndo is P16.6 over made-up returns.
func TestMadeUndo(t *testing.T) {
	inserted, moved := 0, 0
	for seed := range uint64(60) {
		m := &run{maker: maker{rand.New(rand.NewPCG(seed, 166))}, t: t, ever: []api.Row{root}}
		s := m.schema(t)
		m.x, _ = store.New(s)
		m.said = saidOf(s.Sects())
		for range 60 {
			m.step()
		}
		for range 30 {
			before := look(t, m.x)
			at := m.row()
			section := m.section(at)
			if r, e := m.x.Insert(at, section, m.place(len(m.x.Rows(at, section)))); e == api.OK {
				inserted++
				m.x.Delete(r)
				before.next++
			}
			r := m.row()
			if was, e := m.x.Move(r, m.IntN(3)); e == api.OK {
				moved++
				m.x.Move(r, was)
			}
			if !alike(before, look(t, m.x)) {
				t.Fatalf("undone, but changed: %v to %v", before, look(t, m.x))
			}
		}
	}
	if inserted < 100 || moved < 100 {
		t.Error("little was done", inserted, moved)
	}
}

// inst is one that a return of the sections may have, or one that is changed at one place or more, and whether it is.
func (m maker) inst(t *testing.T, sects []api.Sect, section int, wild int) (api.Inst, bool) {
	var i api.Inst
	good := true
	for _, item := range sects[section].Items {
		if item.Kind != api.ItField {
			continue
		}
		v := []api.Value{{}, num(t, m.Int64N(9), item.Type.Scale), flag(m.IntN(2) == 0), text("x")}[m.pick(0, item.Type.Kind)]
		if m.IntN(wild) == 0 {
			v = []api.Value{{}, num(t, 7, m.pick(0, 2, 18)), flag(true), text("x"), {Text: "x"}, {Kind: api.VErr, Err: 1}}[m.IntN(6)]
			good = good && types.Fits(v, item.Type)
		}
		i.Values = append(i.Values, v)
	}
	if m.IntN(wild) == 0 {
		i.Values, good = append(i.Values, blank), false
	}
	for n, sect := range sects {
		if sect.Parent != section {
			continue
		}
		many := min(m.IntN(4), sect.Max)
		if m.IntN(wild) == 0 && sect.Max < 8 {
			many, good = sect.Max+1, false
		}
		list := make([]api.Inst, 0, many)
		for range many {
			kid, fine := m.inst(t, sects, n, wild)
			list, good = append(list, kid), good && fine
		}
		i.Kids = append(i.Kids, list)
	}
	if m.IntN(wild) == 0 {
		i.Kids, good = append(i.Kids, nil), false
	}
	return i, good
}

// TestMadeFill is P16.4 and P16.7 over made-up definitions: what may be is filled in, what may not is refused.
func TestMadeFill(t *testing.T) {
	taken, no := 0, 0
	for seed := range uint64(400) {
		m := maker{rand.New(rand.NewPCG(seed, 164))}
		s := m.schema(t)
		i, good := m.inst(t, s.Sects(), 0, m.pick(30, 100, 1000, 1<<30))
		before := copied(i)
		x, e := store.Fill(s, i)
		if !is(i, before) {
			t.Fatal("Fill wrote to what was handed in")
		}
		if !good {
			no++
			if x != nil || e != api.ErrArg {
				t.Fatalf("Fill of %v: %d", i, e)
			}
			continue
		}
		taken++
		if e != api.OK || !is(x.Plain(), i) || !store.Same(i, x.Plain()) {
			t.Fatalf("Fill of %v: %d", i, e)
		}
		id := int64(0)
		for r := range x.All() {
			if id > 0 && r.Ids[s.Sects()[r.Section].Depth-2] != id {
				t.Fatalf("ids are not in the order of All: %v, not %d", r, id)
			}
			id++
		}
		if x.Next() != id || x.Len() != int(id-1) {
			t.Fatal("Next, Len", x.Next(), x.Len(), id)
		}
	}
	if taken < 100 || no < 50 {
		t.Error("what was made up is too good, or too bad", taken, no)
	}
}
