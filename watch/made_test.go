package watch_test

import (
	"math/rand/v2"
	"slices"
	"strconv"
	"strings"
	"testing"

	"excise/api"
	"excise/path"
	"excise/rules"
	"excise/store"
)

const great = "115792089237316195423570985008687907853269984665640564039457584007913129639935" // 2^256 - 1

// A maker makes up definitions, returns of them, and changes of these.
type maker struct{ *rand.Rand }

func (m maker) pick(l ...int) int { return l[m.IntN(len(l))] }

func pickOf[T any](m maker, l []T) T { return l[m.IntN(len(l))] }

// A part is a section that is made up; parts of one depth have items of the same names.
type part struct {
	parent, depth int
	name          string
	items         []made
}

// A made item reads those of lesser turns alone; turns have nothing to do with places.
type made struct {
	name, word string
	kind       int
	scale      int
	turn       int
}

func (m maker) parts() []part {
	list := []part{{parent: -1, depth: 1}}
	for range m.pick(0, 1, 2, 3, 3, 5, 5, 8, 8, 12) {
		parent := m.pick(m.IntN(len(list)), len(list)-1)
		if list[parent].depth < api.MaxDepth {
			list = append(list, part{parent: parent, depth: list[parent].depth + 1, name: "s" + strconv.Itoa(list[parent].depth) + "x" + strconv.Itoa(len(list))})
		}
	}
	many := 0
	for n := range list {
		for i := range m.pick(1, 2, 3, 4, 5, 7) {
			list[n].items = append(list[n].items, made{
				name: string(rune('a'+list[n].depth)) + strconv.Itoa(i), word: pickOf(m, []string{"field", "field", "line", "line", "line", "line", "check"}),
				kind: m.pick(api.VNum, api.VNum, api.VNum, api.VNum, api.VFlag, api.VText), scale: m.pick(0, 1, 2, 2, 18)})
			many++
		}
	}
	turns := m.Perm(many)
	for n := range list {
		for i := range list[n].items {
			list[n].items[i].turn, turns = turns[0], turns[1:]
			if list[n].items[i].word == "check" {
				list[n].items[i].kind = api.VFlag
			}
		}
	}
	return list
}

// names are those that an item of a part may read, of a kind.
func names(list []part, at, turn, kind int) []string {
	var l []string
	for ; at >= 0; at = list[at].parent {
		for _, item := range list[at].items {
			if item.kind == kind && item.turn < turn && item.word != "check" {
				l = append(l, item.name)
			}
		}
	}
	return l
}

// columns are aggregates that an item of a part may read.
func (m maker) columns(list []part, at, turn int) []string {
	var l []string
	for _, kid := range list {
		if kid.parent != at || kid.depth == 1 {
			continue
		}
		l = append(l, "rows ( "+kid.name+" )")
		for _, item := range kid.items {
			if item.turn >= turn || item.word == "check" {
				continue
			}
			call := "count"
			if item.kind == api.VNum {
				call = pickOf(m, []string{"sum", "sum", "min", "max", "count"})
			}
			l = append(l, call+" ( "+kid.name+" . "+item.name+" )")
		}
	}
	return l
}

// leaf is an expression of a kind that mostly reads something.
func (m maker) leaf(list []part, at, turn, kind int) string {
	l := names(list, at, turn, kind)
	if kind == api.VNum {
		l = append(l, m.columns(list, at, turn)...)
	}
	if len(l) > 0 && m.IntN(8) > 0 {
		return pickOf(m, l)
	}
	switch kind {
	case api.VNum:
		return pickOf(m, []string{"0", "1", "2.50", "0.125", "10", "- 4", great})
	case api.VFlag:
		return pickOf(m, []string{"true", "false"})
	}
	return pickOf(m, []string{`""`, `"x"`, `"some text"`})
}

func (m maker) expr(list []part, at, turn, kind, depth int) string {
	sub := func(kind int) string { return m.expr(list, at, turn, kind, depth-1) }
	if depth == 0 || m.IntN(5) == 0 {
		return m.leaf(list, at, turn, kind)
	}
	switch m.IntN(6) {
	case 0:
		return "if ( " + sub(api.VFlag) + " , " + sub(kind) + " , " + sub(kind) + " )"
	case 1:
		read := m.leaf(list, at, turn, kind)
		return "if ( blank ( " + read + " ) , " + sub(kind) + " , " + read + " )"
	}
	switch kind {
	case api.VNum:
		switch m.IntN(7) {
		case 0:
			return "- ( " + sub(kind) + " )"
		case 1:
			return "round ( " + sub(kind) + " , " + strconv.Itoa(m.IntN(4)) + " , " + m.policy() + " )"
		case 2:
			return pickOf(m, []string{"tab", "tax"}) + " ( " + sub(kind) + " )"
		}
		return "( " + sub(kind) + pickOf(m, []string{" + ", " - ", " * "}) + sub(kind) + " )"
	case api.VFlag:
		return m.flag(sub)
	}
	return m.leaf(list, at, turn, kind)
}

func (m maker) flag(sub func(kind int) string) string {
	of := m.pick(api.VNum, api.VNum, api.VFlag, api.VText)
	switch m.IntN(5) {
	case 0:
		return "( not ( " + sub(api.VFlag) + " ) )"
	case 1:
		return "blank ( " + sub(of) + " )"
	case 2:
		return "( " + sub(of) + pickOf(m, []string{" = ", " != "}) + sub(of) + " )"
	case 3:
		return "( " + sub(api.VFlag) + pickOf(m, []string{" and ", " or "}) + sub(api.VFlag) + " )"
	}
	return "( " + sub(api.VNum) + pickOf(m, []string{" < ", " <= ", " > ", " >= "}) + sub(api.VNum) + " )"
}

func (m maker) policy() string {
	return pickOf(m, []string{"half_up", "half_even", "down", "up", "floor"})
}

// definition is a text that is accepted.
func (m maker) definition() string {
	list := m.parts()
	var b strings.Builder
	var write func(at int)
	write = func(at int) {
		for _, item := range list[at].items {
			as := []string{api.VNum: "amount " + strconv.Itoa(item.scale), api.VFlag: "flag", api.VText: "text"}[item.kind]
			b.WriteString(item.word + " " + item.name)
			switch item.word {
			case "field":
				b.WriteString(" : " + as + pickOf(m, []string{"", " needed"}))
			case "line":
				if item.kind == api.VNum {
					as += " " + m.policy()
				}
				b.WriteString(" : " + as + " = " + m.expr(list, at, item.turn, item.kind, m.IntN(4)))
			case "check":
				b.WriteString(" = " + m.expr(list, at, item.turn, api.VFlag, m.pick(0, 0, 1, 2, 3)))
			}
			b.WriteString(" ; ")
		}
		for n, kid := range list {
			if kid.parent == at {
				b.WriteString("section " + kid.name + " max 6 { ")
				write(n)
				b.WriteString("} ")
			}
		}
	}
	write(0)
	return "return r { " + b.String() + "table tab { from 0 base 1 rate 0.5 ; from 7.25 base 4 rate 0.125 ; } table tax { from - 3 base - 1 rate 2 ; } }"
}

// value is one for an item: few numbers, so that many are the same again, and some that no field takes.
func (m maker) value(of api.Item) api.Value {
	v := api.Value{Kind: of.Type.Kind}
	if m.IntN(30) == 0 {
		v.Kind = m.IntN(6)
	}
	switch v.Kind {
	case api.VNum:
		v.Num = api.Dec{N: api.Nat{uint64(m.pick(0, 1, 2, 3, m.IntN(500)))}, Scale: of.Type.Scale}
		if m.IntN(20) == 0 {
			v.Num = valueOf(great).Num
			v.Num.Scale = of.Type.Scale
		}
		if m.IntN(30) == 0 {
			v.Num.Scale++
		}
		v.Num.Neg = v.Num.N != (api.Nat{}) && m.IntN(3) == 0
	case api.VFlag:
		v.Flag = m.IntN(2) == 0
	case api.VText:
		v.Text = pickOf(m, []string{"", "x", "some text", strings.Repeat("\xff", api.MaxText)})
	}
	return v
}

// place is mostly one of so many.
func (m maker) place(many int) int {
	if many == 0 || m.IntN(20) == 0 {
		return m.pick(-1, 0, many, many+1)
	}
	return m.IntN(many)
}

// edit is a change of a return that mostly is not refused: rows come more often than they go, and what its Kind does not name is anything.
func (m maker) edit(x *store.Store, l []api.Sect) api.Edit {
	rows := slices.Collect(x.All())
	r := pickOf(m, rows[m.IntN(min(len(rows), 20)):])
	if m.IntN(15) == 0 {
		r.Ids[m.IntN(len(r.Ids))] += int64(m.IntN(3))
	}
	e := api.Edit{Kind: m.pick(1, 1, 1, 1, 1, 2, 2, 3, 3, 4, 4, 4, 4, 4, 4, 5, 5, 5, m.IntN(9)-1), Row: r, Section: m.IntN(len(l)+2) - 1, Place: m.IntN(9) - 1, Item: m.IntN(9) - 1, Value: m.value(api.Item{})}
	switch e.Kind {
	case api.EdInsert:
		m.aimInsert(&e, x, rows, l)
	case api.EdMove:
		around, _ := path.Parent(l, r)
		e.Place = m.place(len(x.Rows(around, r.Section)))
	case api.EdSet, api.EdClear:
		m.aimFill(&e, x, rows, l)
	}
	return e
}

func (m maker) aimInsert(e *api.Edit, x *store.Store, rows []api.Row, l []api.Sect) {
	section := len(l) - 1 - m.IntN(max(len(l)-1, 1))
	rows = slices.DeleteFunc(rows, func(r api.Row) bool { return r.Section != l[section].Parent })
	if len(rows) > 0 && m.IntN(20) > 0 {
		e.Row, e.Section = pickOf(m, rows), section
	}
	e.Place = m.place(len(x.Rows(e.Row, e.Section)) + 1)
}

func (m maker) aimFill(e *api.Edit, x *store.Store, rows []api.Row, l []api.Sect) {
	var fields []api.Cell
	for _, r := range rows {
		for item, of := range l[r.Section].Items {
			if of.Kind == api.ItField {
				fields = append(fields, cell(r, item))
			}
		}
	}
	if len(fields) == 0 || m.IntN(10) == 0 {
		return
	}
	c := pickOf(m, fields)
	e.Row, e.Item, e.Value = c.Row, c.Item, m.value(l[c.Row.Section].Items[c.Item])
	if v, _ := x.Get(c); m.IntN(8) == 0 && v.Kind != api.VBlank {
		e.Value = v
	}
}

// fill gives fields that are blank values.
func (m maker) fill(x *store.Store, l []api.Sect) {
	for r := range x.All() {
		for item, of := range l[r.Section].Items {
			if m.IntN(4) > 0 {
				x.Set(cell(r, item), m.value(of))
			}
		}
	}
}

// storeOf is a made-up return of a made-up definition.
func (m maker) storeOf(t *testing.T) *store.Store {
	t.Helper()
	x, e := store.New(schemaOf(t, m.definition()))
	if e != api.OK {
		t.Fatal("store.New", e)
	}
	l := x.Schema().Sects()
	for range m.pick(0, 10, 40, 100) {
		switch e := m.edit(x, l); e.Kind {
		case api.EdInsert:
			x.Insert(e.Row, e.Section, e.Place)
		case api.EdDelete:
			x.Delete(e.Row)
		case api.EdMove:
			x.Move(e.Row, e.Place)
		}
	}
	if m.IntN(3) > 0 {
		m.fill(x, l)
	}
	return x
}

// watchedOf watches a made-up return: from its beginning on, or from some time on.
func (m maker) watchedOf(t *testing.T) watched {
	t.Helper()
	if m.IntN(3) == 0 {
		return watchedOf(t, m.definition())
	}
	return watchedFrom(t, m.storeOf(t))
}

// some are names: of the definition's items and sections, and some that nobody has.
func (m maker) some(l []api.Sect) []string {
	var names []string
	for range m.pick(0, 1, 1, 2, 3, 6) {
		sect := l[m.pick(0, 0, m.IntN(len(l)))]
		switch {
		case m.IntN(6) == 0:
			names = append(names, pickOf(m, []string{"", "nobody", "r"}))
		case m.IntN(2) == 0:
			names = append(names, pickOf(m, sect.Items).Name)
		default:
			names = append(names, pickOf(m, l).Name)
		}
	}
	return names
}

// TestMade is P22.1 to P22.6 over many made-up definitions, returns and changes. Of all that can happen there must be enough, or it would hold little.
func TestMade(t *testing.T) {
	found := map[string]int{}
	for seed := range uint64(500) {
		m := maker{rand.New(rand.NewPCG(seed, 22))}
		x := m.watchedOf(t)
		x.hold()
		x.hold(m.some(x.l)...)
		for range m.pick(5, 20, 40) {
			was, e := look(x.Watch), m.edit(x.Store(), x.l)
			got := x.do(e)
			now := look(x.Watch)
			if got.Err != api.OK && !alike(was, now) {
				t.Fatalf("%v was refused, and is seen", e)
			}
			count(found, e, got, was, now)
			names := m.some(x.l)
			x.hold(names...)
			if len(x.Faults(names...)) < len(now.faults) {
				found["left out"]++
			}
		}
	}
	for _, key := range []string{"1 0", "2 0", "3 0", "4 0", "5 0", "1 1", "1 4", "1 6", "2 1", "2 4", "3 1", "3 4", "4 1", "4 4", "4 100", "5 1", "5 4",
		"come by 1", "come by 2", "come by 4", "come by 5", "gone by 1", "gone by 2", "gone by 4",
		"turned", "another place", "many gone", "the same again", "the same asked", "left out"} {
		if found[key] < 10 {
			t.Error("only", found[key], "times", key)
		}
	}
	// Nothing reads in which order rows stand.
	if found["come by 3"]+found["gone by 3"] > 0 {
		t.Error("faults come or go by moves")
	}
	for kind := api.FtNeed; kind <= api.FtError; kind++ {
		if found["kind "+strconv.Itoa(kind)] < 60 {
			t.Error("only", found["kind "+strconv.Itoa(kind)], "times come of kind", kind)
		}
	}
}

// count counts what a change made of the faults.
func count(found map[string]int, e api.Edit, got api.Edited, was, now seen) {
	kind := strconv.Itoa(e.Kind)
	found[kind+" "+strconv.Itoa(int(got.Err))]++
	if got.Err != api.OK {
		return
	}
	before := map[api.Cell]api.Fault{}
	for _, f := range was.faults {
		before[f.Cell] = f
	}
	for _, f := range now.faults {
		old, ok := before[f.Cell]
		delete(before, f.Cell)
		switch {
		case !ok:
			found["come by "+kind]++
			found["kind "+strconv.Itoa(f.Kind)]++
		case old.Kind != f.Kind || old.Err != f.Err:
			found["turned"]++
		case !slices.Equal(old.At, f.At):
			found["another place"]++
		}
	}
	if len(before) > 0 {
		found["gone by "+kind]++
	}
	if len(before) > 3 && e.Kind == api.EdDelete {
		found["many gone"]++
	}
	if sameFaults(was.faults, now.faults) {
		found["the same again"]++
		if now.asked > was.asked {
			found["the same asked"]++
		}
	}
}

// TestMadeRises is P22.5 over made-up returns, of which rows are moved about.
func TestMadeRises(t *testing.T) {
	pairs, moved := 0, 0
	for seed := range uint64(600) {
		m := maker{rand.New(rand.NewPCG(seed, 225))}
		x := watchedFrom(t, m.storeOf(t))
		for range 10 {
			rows := slices.Collect(x.Store().All())
			r := pickOf(m, rows)
			around, _ := path.Parent(x.l, r)
			if got := x.Do(api.Edit{Kind: api.EdMove, Row: r, Place: m.place(len(x.Store().Rows(around, r.Section)))}); got.Err == api.OK {
				moved++
			}
		}
		l := x.Faults(m.some(x.l)...)
		for n := range l {
			for k := range l[:n] {
				pairs++
				if rules.Compare(l[k], l[n]) != -1 {
					t.Fatalf("Compare of %v, %v", l[k], l[n])
				}
			}
		}
	}
	if pairs < 10000 || moved < 1000 {
		t.Error("too tame", pairs, moved)
	}
}

// TestMadeClones: made-up changes of a return and of clones of it, each of which goes its own way.
func TestMadeClones(t *testing.T) {
	for seed := range uint64(60) {
		m := maker{rand.New(rand.NewPCG(seed, 221))}
		x := m.watchedOf(t)
		for range 6 {
			y := x.clone()
			before := look(y.Watch)
			for range 5 {
				x.do(m.edit(x.Store(), x.l))
			}
			if !alike(before, look(y.Watch)) {
				t.Fatal("a change is seen by a clone")
			}
			if m.IntN(2) == 0 {
				x = y
			}
		}
	}
}

// TestMadeHistory: of a return with the same Plain the faults are the same, but for ids, whatever was done to come to it.
func TestMadeHistory(t *testing.T) {
	faults, others := 0, 0
	for seed := range uint64(400) {
		m := maker{rand.New(rand.NewPCG(seed, 222))}
		x := m.watchedOf(t)
		for range 40 {
			x.Do(m.edit(x.Store(), x.l))
		}
		y, e := store.Fill(x.Store().Schema(), x.Store().Plain())
		if e != api.OK {
			t.Fatal("Fill", e)
		}
		there := slices.Collect(y.All())
		as := map[api.Row]api.Row{}
		for n, r := range slices.Collect(x.Store().All()) {
			as[r] = there[n]
			if r != there[n] {
				others++
			}
		}
		want := x.Faults()
		for n := range want {
			want[n].Cell.Row = as[want[n].Cell.Row]
		}
		faults += len(want)
		if got := watchedFrom(t, y).Faults(); !sameFaults(got, want) {
			t.Fatalf("Faults:\n%v\nnot:\n%v", got, want)
		}
	}
	if faults < 2000 || others < 500 {
		t.Error("too tame", faults, others)
	}
}
