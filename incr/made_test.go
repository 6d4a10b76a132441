package incr_test

import (
	"math/rand/v2"
	"slices"
	"strconv"
	"strings"
	"testing"

	"excise/api"
	"excise/deps"
	"excise/incr"
	"excise/path"
	"excise/store"
	"excise/value"
)

const great = "115792089237316195423570985008687907853269984665640564039457584007913129639935" // 2^256 - 1

// A maker makes up definitions, returns of them, and changes of these.
type maker struct{ *rand.Rand }

func (m maker) pick(l ...int) int { return l[m.IntN(len(l))] }

func pickOf[T any](m maker, l []T) T { return l[m.IntN(len(l))] }

// A part is a section that is made up; parts of one depth have items of the same names.
type part struct {
	parent, depth int
	name          string
	items         []made
}

// A made item reads those of lesser turns alone; turns have nothing to do with places.
type made struct {
	name, word string
	kind       int
	scale      int
	turn       int
}

func (m maker) parts() []part {
	list := []part{{parent: -1, depth: 1}}
	for range m.pick(0, 1, 2, 3, 3, 5, 5, 8, 8, 12) {
		parent := m.pick(m.IntN(len(list)), len(list)-1)
		if list[parent].depth < api.MaxDepth {
			list = append(list, part{parent: parent, depth: list[parent].depth + 1, name: "s" + strconv.Itoa(list[parent].depth) + "x" + strconv.Itoa(len(list))})
		}
	}
	many := 0
	for n := range list {
		for i := range m.pick(1, 2, 3, 4, 5, 7) {
			list[n].items = append(list[n].items, made{
				name: string(rune('a'+list[n].depth)) + strconv.Itoa(i), word: pickOf(m, []string{"field", "field", "line", "line", "line", "line", "check"}),
				kind: m.pick(api.VNum, api.VNum, api.VNum, api.VNum, api.VFlag, api.VText), scale: m.pick(0, 1, 2, 2, 18)})
			many++
		}
	}
	turns := m.Perm(many)
	for n := range list {
		for i := range list[n].items {
			list[n].items[i].turn, turns = turns[0], turns[1:]
			if list[n].items[i].word == "check" {
				list[n].items[i].kind = api.VFlag
			}
		}
	}
	return list
}

// names are those that an item of a part may read, of a kind.
func names(list []part, at, turn, kind int) []string {
	var l []string
	for ; at >= 0; at = list[at].parent {
		for _, item := range list[at].items {
			if item.kind == kind && item.turn < turn && item.word != "check" {
				l = append(l, item.name)
			}
		}
	}
	return l
}

// columns are aggregates that an item of a part may read.
func (m maker) columns(list []part, at, turn int) []string {
	var l []string
	for _, kid := range list {
		if kid.parent != at || kid.depth == 1 {
			continue
		}
		l = append(l, "rows ( "+kid.name+" )")
		for _, item := range kid.items {
			if item.turn >= turn || item.word == "check" {
				continue
			}
			call := "count"
			if item.kind == api.VNum {
				call = pickOf(m, []string{"sum", "sum", "min", "max", "count"})
			}
			l = append(l, call+" ( "+kid.name+" . "+item.name+" )")
		}
	}
	return l
}

// leaf is an expression of a kind that mostly reads something.
func (m maker) leaf(list []part, at, turn, kind int) string {
	l := names(list, at, turn, kind)
	if kind == api.VNum {
		l = append(l, m.columns(list, at, turn)...)
	}
	if len(l) > 0 && m.IntN(8) > 0 {
		return pickOf(m, l)
	}
	switch kind {
	case api.VNum:
		return pickOf(m, []string{"0", "1", "2.50", "0.125", "10", "- 4", great})
	case api.VFlag:
		return pickOf(m, []string{"true", "false"})
	}
	return pickOf(m, []string{`""`, `"x"`, `"some text"`})
}

func (m maker) expr(list []part, at, turn, kind, depth int) string {
	sub := func(kind int) string { return m.expr(list, at, turn, kind, depth-1) }
	if depth == 0 || m.IntN(5) == 0 {
		return m.leaf(list, at, turn, kind)
	}
	switch m.IntN(6) {
	case 0:
		return "if ( " + sub(api.VFlag) + " , " + sub(kind) + " , " + sub(kind) + " )"
	case 1:
		read := m.leaf(list, at, turn, kind)
		return "if ( blank ( " + read + " ) , " + sub(kind) + " , " + read + " )"
	}
	switch kind {
	case api.VNum:
		switch m.IntN(7) {
		case 0:
			return "- ( " + sub(kind) + " )"
		case 1:
			return "round ( " + sub(kind) + " , " + strconv.Itoa(m.IntN(4)) + " , " + m.policy() + " )"
		case 2:
			return pickOf(m, []string{"tab", "tax"}) + " ( " + sub(kind) + " )"
		}
		return "( " + sub(kind) + pickOf(m, []string{" + ", " - ", " * "}) + sub(kind) + " )"
	case api.VFlag:
		return m.flag(sub)
	}
	return m.leaf(list, at, turn, kind)
}

func (m maker) flag(sub func(kind int) string) string {
	of := m.pick(api.VNum, api.VNum, api.VFlag, api.VText)
	switch m.IntN(5) {
	case 0:
		return "( not ( " + sub(api.VFlag) + " ) )"
	case 1:
		return "blank ( " + sub(of) + " )"
	case 2:
		return "( " + sub(of) + pickOf(m, []string{" = ", " != "}) + sub(of) + " )"
	case 3:
		return "( " + sub(api.VFlag) + pickOf(m, []string{" and ", " or "}) + sub(api.VFlag) + " )"
	}
	return "( " + sub(api.VNum) + pickOf(m, []string{" < ", " <= ", " > ", " >= "}) + sub(api.VNum) + " )"
}

func (m maker) policy() string {
	return pickOf(m, []string{"half_up", "half_even", "down", "up", "floor"})
}

// definition is a text that is accepted.
func (m maker) definition() string {
	list := m.parts()
	var b strings.Builder
	var write func(at int)
	write = func(at int) {
		for _, item := range list[at].items {
			as := []string{api.VNum: "amount " + strconv.Itoa(item.scale), api.VFlag: "flag", api.VText: "text"}[item.kind]
			b.WriteString(item.word + " " + item.name)
			switch item.word {
			case "field":
				b.WriteString(" : " + as)
			case "line":
				if item.kind == api.VNum {
					as += " " + m.policy()
				}
				b.WriteString(" : " + as + " = " + m.expr(list, at, item.turn, item.kind, m.IntN(4)))
			case "check":
				b.WriteString(" = " + m.expr(list, at, item.turn, api.VFlag, m.IntN(4)))
			}
			b.WriteString(" ; ")
		}
		for n, kid := range list {
			if kid.parent == at {
				b.WriteString("section " + kid.name + " max 6 { ")
				write(n)
				b.WriteString("} ")
			}
		}
	}
	write(0)
	return "return r { " + b.String() + "table tab { from 0 base 1 rate 0.5 ; from 7.25 base 4 rate 0.125 ; } table tax { from - 3 base - 1 rate 2 ; } }"
}

// value is one for an item: few numbers, so that many are the same again, and some that no field takes.
func (m maker) value(of api.Item) api.Value {
	v := api.Value{Kind: of.Type.Kind}
	if m.IntN(30) == 0 {
		v.Kind = m.IntN(6)
	}
	switch v.Kind {
	case api.VNum:
		v.Num = api.Dec{N: api.Nat{uint64(m.pick(0, 1, 2, 3, m.IntN(500)))}, Scale: of.Type.Scale}
		if m.IntN(20) == 0 {
			v.Num = valueOf(great).Num
			v.Num.Scale = of.Type.Scale
		}
		if m.IntN(30) == 0 {
			v.Num.Scale++
		}
		v.Num.Neg = v.Num.N != (api.Nat{}) && m.IntN(3) == 0
	case api.VFlag:
		v.Flag = m.IntN(2) == 0
	case api.VText:
		v.Text = pickOf(m, []string{"", "x", "some text", strings.Repeat("\xff", api.MaxText)})
	}
	return v
}

// place is mostly one of so many.
func (m maker) place(many int) int {
	if many == 0 || m.IntN(20) == 0 {
		return m.pick(-1, 0, many, many+1)
	}
	return m.IntN(many)
}

// edit is a change of a return that mostly is not refused: rows come more often than they go, and what its Kind does not name is anything.
func (m maker) edit(x *store.Store, l []api.Sect) api.Edit {
	rows := slices.Collect(x.All())
	r := pickOf(m, rows[m.IntN(min(len(rows), 20)):])
	if m.IntN(15) == 0 {
		r.Ids[m.IntN(len(r.Ids))] += int64(m.IntN(3))
	}
	e := api.Edit{Kind: m.pick(1, 1, 1, 1, 1, 2, 3, 3, 4, 4, 4, 4, 4, 4, 5, m.IntN(9)-1), Row: r, Section: m.IntN(len(l)+2) - 1, Place: m.IntN(9) - 1, Item: m.IntN(9) - 1, Value: m.value(api.Item{})}
	switch e.Kind {
	case api.EdInsert:
		m.aimInsert(&e, x, rows, l)
	case api.EdMove:
		around, _ := path.Parent(l, r)
		e.Place = m.place(len(x.Rows(around, r.Section)))
	case api.EdSet, api.EdClear:
		m.aimFill(&e, x, rows, l)
	}
	return e
}

func (m maker) aimInsert(e *api.Edit, x *store.Store, rows []api.Row, l []api.Sect) {
	section := len(l) - 1 - m.IntN(max(len(l)-1, 1))
	rows = slices.DeleteFunc(rows, func(r api.Row) bool { return r.Section != l[section].Parent })
	if len(rows) > 0 && m.IntN(20) > 0 {
		e.Row, e.Section = pickOf(m, rows), section
	}
	e.Place = m.place(len(x.Rows(e.Row, e.Section)) + 1)
}

func (m maker) aimFill(e *api.Edit, x *store.Store, rows []api.Row, l []api.Sect) {
	var fields []api.Cell
	for _, r := range rows {
		for item, of := range l[r.Section].Items {
			if of.Kind == api.ItField {
				fields = append(fields, cell(r, item))
			}
		}
	}
	if len(fields) == 0 || m.IntN(10) == 0 {
		return
	}
	c := pickOf(m, fields)
	e.Row, e.Item, e.Value = c.Row, c.Item, m.value(l[c.Row.Section].Items[c.Item])
	if v, _ := x.Get(c); m.IntN(8) == 0 && v.Kind != api.VBlank {
		e.Value = v
	}
}

// fill gives fields that are blank values.
func (m maker) fill(x *store.Store, l []api.Sect) {
	for r := range x.All() {
		for item, of := range l[r.Section].Items {
			if m.IntN(4) > 0 {
				x.Set(cell(r, item), m.value(of))
			}
		}
	}
}

// storeOf is a made-up return of a made-up definition.
func (m maker) storeOf(t *testing.T, changes ...int) *store.Store {
	t.Helper()
	x, e := store.New(schemaOf(t, m.definition()))
	if e != api.OK {
		t.Fatal("store.New", e)
	}
	l := x.Schema().Sects()
	for range m.pick(changes...) {
		change(x, m.edit(x, l))
	}
	m.fill(x, l)
	return x
}

// keptOf keeps up a made-up return: from its beginning on, or from some time on.
func (m maker) keptOf(t *testing.T) kept {
	t.Helper()
	if m.IntN(3) == 0 {
		return keptOf(t, m.definition())
	}
	return keptFrom(t, m.storeOf(t, 0, 10, 40, 100))
}

// TestMade is P20.1 to P20.6 over many made-up definitions, returns and changes. Of all that can happen there must be enough, or it would hold little.
func TestMade(t *testing.T) {
	found := map[string]int{}
	for seed := range uint64(500) {
		m := maker{rand.New(rand.NewPCG(seed, 20))}
		x := m.keptOf(t)
		x.hold(x.Store(), modelOf(x.Store()))
		for range m.pick(5, 20, 40) {
			was, lines := x.Store(), x.Lines()
			e := m.edit(was, x.l)
			x.count(found, was, lines, e, x.do(e))
		}
	}
	for _, key := range []string{"1 0", "2 0", "3 0", "4 0", "5 0", "1 1", "1 4", "1 6", "2 1", "2 4", "3 1", "3 4", "4 1", "4 4", "4 100", "5 1", "5 4", "none", "same", "stopped", "went on", "one rank", "to error", "from error", "new"} {
		if found[key] < 10 {
			t.Error("only", found[key], "times", key)
		}
	}
}

// count counts what a change came to.
func (x kept) count(found map[string]int, was *store.Store, lines map[api.Cell]api.Value, e api.Edit, got api.Edited) {
	kind := strconv.Itoa(e.Kind)
	found[kind+" "+strconv.Itoa(int(got.Err))]++
	if got.Err != api.OK {
		return
	}
	now := x.Store()
	if len(got.Reckoned) == 0 {
		found["none"]++
	}
	if len(got.Changed) < len(got.Reckoned) {
		found["same"]++
	}
	if begin := first(was, now, e, got.Row); len(deps.Sort(now, begin...)) < len(got.Reckoned) {
		found["went on"]++
	}
	if len(deps.Dirty(now, got.Reckoned...)) > 0 && len(deps.Dirty(now, got.Changed...)) < len(deps.Dirty(now, got.Reckoned...)) {
		found["stopped"]++
	}
	for n, c := range got.Reckoned {
		v, _ := x.Value(c)
		was, ok := lines[c]
		switch {
		case !ok:
			found["new"]++
		case v.Kind == api.VErr && was.Kind != api.VErr:
			found["to error"]++
		case v.Kind != api.VErr && was.Kind == api.VErr:
			found["from error"]++
		}
		if n > 0 && deps.Rank(now, c) == deps.Rank(now, got.Reckoned[n-1]) {
			found["one rank"]++
		}
	}
}

// again comes to the same Plain by other changes: rows come in another order of time, some for a while, with values that were others.
func (m maker) again(t *testing.T, x *store.Store) kept {
	t.Helper()
	l := x.Schema().Sects()
	z, _ := incr.New(x.Schema())
	now := map[api.Row]api.Row{root: root}
	wait := slices.Collect(x.All())[1:]
	m.Shuffle(len(wait), func(a, b int) { wait[a], wait[b] = wait[b], wait[a] })
	for len(wait) > 0 {
		r := wait[0]
		wait = wait[1:]
		at, place, ok := stands(x, l, r, now)
		if !ok {
			wait = append(wait, r)
			continue
		}
		if m.IntN(3) == 0 {
			gone := z.Do(api.Edit{Kind: api.EdInsert, Row: at, Section: r.Section})
			if gone.Err == api.OK {
				z.Do(api.Edit{Kind: api.EdDelete, Row: gone.Row})
			}
		}
		now[r] = m.come(z, at, r.Section, place)
	}
	for r := range x.All() {
		for item, of := range l[r.Section].Items {
			to := cell(now[r], item)
			z.Do(api.Edit{Kind: api.EdSet, Row: to.Row, Item: item, Value: m.value(of)})
			z.Do(api.Edit{Kind: api.EdClear, Row: to.Row, Item: item})
			if v, _ := x.Get(cell(r, item)); v.Kind != api.VBlank {
				z.Do(api.Edit{Kind: api.EdSet, Row: to.Row, Item: item, Value: v})
			}
		}
	}
	return kept{z, t, l}
}

// come puts a row to a place, perhaps by way of another one.
func (m maker) come(z *incr.Incr, at api.Row, section, place int) api.Row {
	if m.IntN(2) == 0 {
		return z.Do(api.Edit{Kind: api.EdInsert, Row: at, Section: section, Place: place}).Row
	}
	r := z.Do(api.Edit{Kind: api.EdInsert, Row: at, Section: section}).Row
	z.Do(api.Edit{Kind: api.EdMove, Row: r, Place: place})
	return r
}

// stands is where a row of a return goes in one that has some of its rows by now, if the row around it is among these.
func stands(x *store.Store, l []api.Sect, r api.Row, now map[api.Row]api.Row) (api.Row, int, bool) {
	parent, _ := path.Parent(l, r)
	at, ok := now[parent]
	place := 0
	for _, beside := range x.Rows(parent, r.Section) {
		if beside == r {
			break
		}
		if _, ok := now[beside]; ok {
			place++
		}
	}
	return at, place, ok
}

// values are those of all cells, row by row.
func (x kept) values() []api.Value {
	var l []api.Value
	for r := range x.Store().All() {
		for item := range x.l[r.Section].Items {
			v, _ := x.Value(cell(r, item))
			l = append(l, v)
		}
	}
	return l
}

// TestMadeHistory is P20.7 over made-up returns.
func TestMadeHistory(t *testing.T) {
	cells, bad := 0, 0
	for seed := range uint64(300) {
		m := maker{rand.New(rand.NewPCG(seed, 207))}
		x := keptFrom(t, m.storeOf(t, 20, 60, 120))
		for range 10 {
			x.Do(m.edit(x.Store(), x.l))
		}
		y := m.again(t, x.Store())
		z, e := store.Fill(x.Store().Schema(), x.Store().Plain())
		if e != api.OK || !store.Same(x.Store().Plain(), y.Store().Plain()) {
			t.Fatal("another Plain", e)
		}
		want := x.values()
		for _, other := range []kept{y, keptFrom(t, z)} {
			if !slices.Equal(want, other.values()) {
				t.Fatalf("other values in %s", z.Schema().Text())
			}
		}
		for _, v := range want {
			cells++
			if v.Kind == api.VErr {
				bad++
			}
		}
	}
	if cells < 10000 || bad < 500 {
		t.Error("only", cells, "cells, and errors", bad)
	}
}

// TestMadeClones: made-up changes of a return and of clones of it, each of which goes its own way.
func TestMadeClones(t *testing.T) {
	for seed := range uint64(60) {
		m := maker{rand.New(rand.NewPCG(seed, 201))}
		x := m.keptOf(t)
		for range 6 {
			y := kept{x.Clone(), t, x.l}
			before := look(y.Incr)
			for range 5 {
				x.do(m.edit(x.Store(), x.l))
			}
			if !alike(before, look(y.Incr)) {
				t.Fatal("a change is seen by a clone")
			}
			if m.IntN(2) == 0 {
				x = y
			}
		}
	}
}

// TestMadeKinds: what values cells have in made-up returns.
func TestMadeKinds(t *testing.T) {
	found := map[string]int{}
	for seed := range uint64(300) {
		m := maker{rand.New(rand.NewPCG(seed, 202))}
		for _, v := range keptFrom(t, m.storeOf(t, 20, 60, 120)).Lines() {
			key := value.Text(v)
			if v.Kind == api.VNum || v.Kind == api.VText {
				key = strconv.Itoa(v.Kind)
			}
			found[key]++
		}
	}
	for _, key := range []string{"1", "3", "true", "false", "blank", "!1", "!3", "!4", "!5"} {
		if found[key] < 30 {
			t.Error("only", found[key], "cells of", key)
		}
	}
}
