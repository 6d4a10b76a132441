package model_test

import (
	"math/rand/v2"
	"slices"
	"strconv"
	"strings"
	"testing"

	"excise/api"
	"excise/formula"
	"excise/model"
	"excise/store"
	"excise/summary"
	"excise/value"
)

// What the chapter's words say of a return, slowly and plainly: a cell is reckoned when it is asked for, after what it reads.
type said struct {
	ret
	rows  []api.Row
	known map[api.Cell]api.Value
}

func saidOf(x ret) *said {
	return &said{x, slices.Collect(x.All()), map[api.Cell]api.Value{}}
}

// outer is the row around a row whose section is as deep as that.
func (m *said) outer(r api.Row, section int) api.Row {
	r.Section = section
	for n := m.l[section].Depth - 1; n < len(r.Ids); n++ {
		r.Ids[n] = 0
	}
	return r
}

func (m *said) item(c api.Cell) (api.Item, api.Errno) {
	if !slices.Contains(m.rows, c.Row) {
		return api.Item{}, api.ErrNone
	}
	items := m.l[c.Row.Section].Items
	if c.Item < 0 || c.Item >= len(items) {
		return api.Item{}, api.ErrArg
	}
	return items[c.Item], api.OK
}

func (m *said) value(c api.Cell) (api.Value, api.Errno) {
	item, e := m.item(c)
	if e != api.OK {
		return api.Value{}, e
	}
	v, ok := m.known[c]
	if !ok {
		if item.Kind == api.ItField {
			v, _ = m.Get(c)
		} else {
			env, _ := m.env(c)
			v = formula.Item(item, env)
		}
		m.known[c] = v
	}
	return v, api.OK
}

// nodes are all nodes of an expression.
func nodes(x api.Expr) []api.Expr {
	l := []api.Expr{x}
	for _, arg := range x.Args {
		l = append(l, nodes(arg)...)
	}
	return l
}

// meant is the cell of the nearest item of a name that may be read.
func (m *said) meant(r api.Row, name string) api.Cell {
	for section := r.Section; ; section = m.l[section].Parent {
		for n, item := range m.l[section].Items {
			if item.Name == name && item.Kind != api.ItCheck {
				return cell(m.outer(r, section), n)
			}
		}
	}
}

// within are the rows of a section within a row, and the item of a name there.
func (m *said) within(at api.Row, section, name string) ([]api.Row, int, api.Item) {
	kid := m.section(at, section)
	items := m.l[kid].Items
	n := slices.IndexFunc(items, func(i api.Item) bool { return i.Name == name })
	rows := m.rowsOf(at, kid)
	if n < 0 {
		return rows, n, api.Item{}
	}
	return rows, n, items[n]
}

func (m *said) rowsOf(at api.Row, kid int) []api.Row {
	var rows []api.Row
	for _, r := range m.rows {
		if r.Section == kid && m.outer(r, at.Section) == at {
			rows = append(rows, r)
		}
	}
	return rows
}

func (m *said) sum(rows []api.Row, item, scale int) api.Sum {
	var parts []api.Sum
	for _, r := range rows {
		v, _ := m.value(cell(r, item))
		parts = append(parts, summary.Of(v, scale))
	}
	return summary.Join(parts...)
}

func (m *said) env(c api.Cell) (api.Env, api.Errno) {
	item, e := m.item(c)
	if e == api.OK && item.Kind == api.ItField {
		e = api.ErrArg
	}
	if e != api.OK {
		return api.Env{}, e
	}
	env := api.Env{Names: map[string]api.Value{}, Cols: map[api.ColKey]api.Col{}, Tables: m.Schema().Def().Tables}
	for _, x := range nodes(item.Expr) {
		switch x.Kind {
		case api.ExName:
			env.Names[x.Name], _ = m.value(m.meant(c.Row, x.Name))
		case api.ExAgg:
			rows, n, of := m.within(c.Row, x.Section, x.Name)
			if x.Op == api.AgRows {
				env.Cols[api.ColKey{Section: x.Section}] = rowsOf(len(rows))
			} else {
				env.Cols[api.ColKey{Section: x.Section, Name: x.Name}] = api.Col{Sum: m.sum(rows, n, of.Type.Scale), Scale: of.Type.Scale}
			}
		}
	}
	return env, api.OK
}

func (m *said) col(at api.Row, section, item int) (api.Sum, api.Errno) {
	if !slices.Contains(m.rows, at) {
		return api.Sum{}, api.ErrNone
	}
	if section < 1 || section >= len(m.l) || m.l[section].Parent != at.Section || item < 0 || item >= len(m.l[section].Items) {
		return api.Sum{}, api.ErrArg
	}
	of := m.l[section].Items[item]
	if of.Kind == api.ItCheck {
		return api.Sum{}, api.ErrArg
	}
	return m.sum(m.rowsOf(at, section), item, of.Type.Scale), api.OK
}

// reads are the cells that a cell reads.
func (m *said) reads(c api.Cell) []api.Cell {
	var list []api.Cell
	item, _ := m.item(c)
	for _, x := range nodes(item.Expr) {
		if x.Kind == api.ExName {
			list = append(list, m.meant(c.Row, x.Name))
		}
		if x.Kind == api.ExAgg && x.Op != api.AgRows {
			rows, n, _ := m.within(c.Row, x.Section, x.Name)
			for _, r := range rows {
				list = append(list, cell(r, n))
			}
		}
	}
	return list
}

// below are the cells that read a cell, by however many steps.
func (m *said) below(c api.Cell) map[api.Cell]int {
	met := map[api.Cell]int{}
	for more := true; more; {
		more = false
		for _, r := range m.rows {
			for n := range m.l[r.Section].Items {
				user := cell(r, n)
				if met[user] > 0 {
					continue
				}
				for _, read := range m.reads(user) {
					if read == c || met[read] > 0 {
						met[user]++
						more = true
					}
				}
			}
		}
	}
	return met
}

// hold holds all that a model tells against the words, of what is there and of some that is not.
func (m *said) hold(got *model.Model, away ...api.Row) {
	m.t.Helper()
	var list []told
	for _, r := range append(slices.Clone(m.rows), away...) {
		many := 3
		if slices.Contains(m.rows, r) {
			many = len(m.l[r.Section].Items)
		}
		for n := -1; n <= many; n++ {
			c := cell(r, n)
			want, wrong := m.value(c)
			if v, e := got.Value(c); v != want || e != wrong {
				m.t.Fatalf("Value of %v: %s %d, not %s %d, in %s", c, value.Text(v), e, value.Text(want), wrong, m.Schema().Text())
			}
			if wrong == api.OK {
				list = append(list, told{c, want})
			}
			m.holdEnv(got, c)
		}
		for section := -1; section <= len(m.l); section++ {
			for item := -1; item < 8; item++ {
				want, wrong := m.col(r, section, item)
				if s, e := got.Col(r, section, item); s != want || e != wrong {
					m.t.Fatalf("Col of %v, %d, %d: %v %d, not %v %d, in %s", r, section, item, s, e, want, wrong, m.Schema().Text())
				}
			}
		}
	}
	if all := allOf(got); !slices.Equal(all, list) || got.Many() != len(list) {
		m.t.Fatalf("All, Many: %v %d, not %v", all, got.Many(), list)
	}
	if plain := got.Plain(); !slices.EqualFunc(plain, list, func(v api.Value, c told) bool { return v == c.v }) {
		m.t.Fatalf("Plain: %v, not %v", plain, list)
	}
}

// holdEnv holds P18.4, too: a line, or a check, is what its formula comes to over its Env.
func (m *said) holdEnv(got *model.Model, c api.Cell) {
	m.t.Helper()
	want, wrong := m.env(c)
	env, e := got.Env(c)
	if !sameEnv(env, want) || e != wrong {
		m.t.Fatalf("Env of %v: %v %d, not %v %d, in %s", c, env, e, want, wrong, m.Schema().Text())
	}
	if e == api.OK {
		item, _ := m.item(c)
		if v, _ := got.Value(c); v != formula.Item(item, env) {
			m.t.Fatalf("Value of %v is not what its formula comes to: %v", c, v)
		}
	}
}

// A maker makes up definitions, and returns of them.
type maker struct{ *rand.Rand }

func (m maker) pick(l ...int) int { return l[m.IntN(len(l))] }

func pickOf[T any](m maker, l []T) T { return l[m.IntN(len(l))] }

// A part is a section that is made up; parts of one depth have items of the same names.
type part struct {
	parent, depth int
	name          string
	items         []made
}

// A made item reads those of lesser turns alone; turns have nothing to do with places.
type made struct {
	name, word string
	kind       int
	scale      int
	turn       int
}

func (m maker) parts() []part {
	list := []part{{parent: -1, depth: 1}}
	for range m.pick(0, 1, 3, 5, 8) {
		parent := m.pick(m.IntN(len(list)), len(list)-1)
		if list[parent].depth < api.MaxDepth {
			list = append(list, part{parent: parent, depth: list[parent].depth + 1, name: "s" + strconv.Itoa(list[parent].depth) + "x" + strconv.Itoa(len(list))})
		}
	}
	many := 0
	for n := range list {
		for i := range m.pick(0, 2, 3, 4, 5, 7) {
			list[n].items = append(list[n].items, made{
				name: string(rune('a'+list[n].depth)) + strconv.Itoa(i), word: pickOf(m, []string{"field", "field", "line", "line", "line", "check"}),
				kind: m.pick(api.VNum, api.VNum, api.VNum, api.VFlag, api.VText), scale: m.pick(0, 1, 2, 2, 18)})
			many++
		}
	}
	turns := m.Perm(many)
	for n := range list {
		for i := range list[n].items {
			list[n].items[i].turn, turns = turns[0], turns[1:]
			if list[n].items[i].word == "check" {
				list[n].items[i].kind = api.VFlag
			}
		}
	}
	return list
}

// names are those that an item of a part may read, of a kind.
func names(list []part, at, turn, kind int) []string {
	var l []string
	for ; at >= 0; at = list[at].parent {
		for _, item := range list[at].items {
			if item.kind == kind && item.turn < turn && item.word != "check" {
				l = append(l, item.name)
			}
		}
	}
	return l
}

// columns are aggregates that an item of a part may read.
func (m maker) columns(list []part, at, turn int) []string {
	var l []string
	for _, kid := range list {
		if kid.parent != at || kid.depth == 1 {
			continue
		}
		l = append(l, "rows ( "+kid.name+" )")
		for _, item := range kid.items {
			if item.turn >= turn || item.word == "check" {
				continue
			}
			call := "count"
			if item.kind == api.VNum {
				call = pickOf(m, []string{"sum", "sum", "min", "max", "count"})
			}
			l = append(l, call+" ( "+kid.name+" . "+item.name+" )")
		}
	}
	return l
}

// leaf is an expression of a kind that mostly reads something.
func (m maker) leaf(list []part, at, turn, kind int) string {
	l := names(list, at, turn, kind)
	if kind == api.VNum {
		l = append(l, m.columns(list, at, turn)...)
	}
	if len(l) > 0 && m.IntN(6) > 0 {
		return pickOf(m, l)
	}
	switch kind {
	case api.VNum:
		return pickOf(m, []string{"0", "1", "2.50", "0.125", "10", "0.000000000000000001", most})
	case api.VFlag:
		return pickOf(m, []string{"true", "false"})
	}
	return pickOf(m, []string{`""`, `"x"`, `"some text"`})
}

func (m maker) expr(list []part, at, turn, kind, depth int) string {
	sub := func(kind int) string { return m.expr(list, at, turn, kind, depth-1) }
	if depth == 0 || m.IntN(5) == 0 {
		return m.leaf(list, at, turn, kind)
	}
	if m.IntN(5) == 0 {
		return "if ( " + sub(api.VFlag) + " , " + sub(kind) + " , " + sub(kind) + " )"
	}
	switch kind {
	case api.VNum:
		switch m.IntN(7) {
		case 0:
			return "- ( " + sub(kind) + " )"
		case 1:
			return "round ( " + sub(kind) + " , " + strconv.Itoa(m.IntN(4)) + " , " + m.policy() + " )"
		case 2:
			return pickOf(m, []string{"tab", "tax", "tax"}) + " ( " + sub(kind) + " )"
		}
		return "( " + sub(kind) + pickOf(m, []string{" + ", " - ", " * "}) + sub(kind) + " )"
	case api.VFlag:
		of := m.pick(api.VNum, api.VNum, api.VFlag, api.VText)
		switch m.IntN(5) {
		case 0:
			return "( not ( " + sub(kind) + " ) )"
		case 1:
			return "blank ( " + sub(of) + " )"
		case 2:
			return "( " + sub(of) + pickOf(m, []string{" = ", " != "}) + sub(of) + " )"
		case 3:
			return "( " + sub(kind) + pickOf(m, []string{" and ", " or "}) + sub(kind) + " )"
		}
		return "( " + sub(api.VNum) + pickOf(m, []string{" < ", " <= ", " > ", " >= "}) + sub(api.VNum) + " )"
	}
	return m.leaf(list, at, turn, kind)
}

func (m maker) policy() string {
	return pickOf(m, []string{"half_up", "half_even", "down", "up", "floor"})
}

// definition is a text that is accepted.
func (m maker) definition() string {
	list := m.parts()
	var b strings.Builder
	var write func(at int)
	write = func(at int) {
		for _, item := range list[at].items {
			as := []string{api.VNum: "amount " + strconv.Itoa(item.scale), api.VFlag: "flag", api.VText: "text"}[item.kind]
			b.WriteString(item.word + " " + item.name)
			switch item.word {
			case "field":
				b.WriteString(" : " + as)
			case "line":
				if item.kind == api.VNum {
					as += " " + m.policy()
				}
				b.WriteString(" : " + as + " = " + m.expr(list, at, item.turn, item.kind, m.IntN(4)))
			case "check":
				b.WriteString(" = " + m.expr(list, at, item.turn, api.VFlag, m.IntN(4)))
			}
			b.WriteString(" ; ")
		}
		for n, kid := range list {
			if kid.parent == at {
				b.WriteString("section " + kid.name + " max 9 { ")
				write(n)
				b.WriteString("} ")
			}
		}
	}
	write(0)
	return "return r { " + b.String() + "table tab { from 0 base 1 rate 0.5 ; from 7.25 base 4 rate 0.125 ; } table tax { from - 3 base - 1 rate 2 ; } }"
}

// put is a value for a field, or none.
func (m maker) put(x ret, c api.Cell) {
	item := x.l[c.Row.Section].Items[c.Item]
	v := api.Value{Kind: m.pick(item.Type.Kind, item.Type.Kind, item.Type.Kind, api.VBlank)}
	switch v.Kind {
	case api.VBlank:
		x.Clear(c)
		return
	case api.VNum:
		v.Num = api.Dec{N: api.Nat{uint64(m.IntN(500))}, Scale: item.Type.Scale}
		if m.IntN(20) == 0 {
			v = of(most)
			v.Num.Scale = item.Type.Scale
		}
		v.Num.Neg = v.Num.N != (api.Nat{}) && m.IntN(3) == 0
	case api.VFlag:
		v.Flag = m.IntN(2) == 0
	case api.VText:
		v.Text = pickOf(m, []string{"", "x", "some text", strings.Repeat("\xff", api.MaxText)})
	}
	if e := x.Set(c, v); e != api.OK {
		x.t.Fatal("Set", c, v, e)
	}
}

func fieldsOf(x ret, r api.Row) []api.Cell {
	var list []api.Cell
	for n, item := range x.l[r.Section].Items {
		if item.Kind == api.ItField {
			list = append(list, cell(r, n))
		}
	}
	return list
}

// change changes a return: rows come more often than they go.
func (m maker) change(x ret) {
	rows := slices.Collect(x.All())
	r := pickOf(m, rows)
	switch m.IntN(10) {
	case 0:
		if m.IntN(3) == 0 {
			x.Delete(r)
		}
	case 1, 2:
		x.Move(r, m.IntN(3))
	case 3, 4, 5:
		for _, c := range fieldsOf(x, r) {
			m.put(x, c)
		}
	default:
		section := m.IntN(len(x.l))
		rows = slices.DeleteFunc(rows, func(r api.Row) bool { return r.Section != x.l[section].Parent })
		if len(rows) == 0 {
			return
		}
		r = pickOf(m, rows)
		if r, e := x.Insert(r, section, m.IntN(len(x.Rows(r, section))+1)); e == api.OK {
			for _, c := range fieldsOf(x, r) {
				m.put(x, c)
			}
		}
	}
}

// returnOf is a made-up return of a made-up definition.
func (m maker) returnOf(t *testing.T) ret {
	t.Helper()
	x := retOf(t, m.definition())
	for _, c := range fieldsOf(x, root) {
		m.put(x, c)
	}
	for range m.pick(0, 5, 20, 50, 100) {
		m.change(x)
	}
	return x
}

// away are rows that are not there, or are none.
func (m maker) away(x ret) []api.Row {
	var list []api.Row
	for range 6 {
		r := row(m.IntN(len(x.l)+2)-1, int64(m.IntN(8)), int64(m.IntN(8)), int64(m.IntN(8)))
		if m.IntN(2) == 0 {
			r = pickOf(m, slices.Collect(x.All()))
			r.Ids[m.IntN(len(r.Ids))] += int64(m.IntN(3))
		}
		if !x.Has(r) {
			list = append(list, r)
		}
	}
	return list
}

// TestMade is P18.1 to P18.4 over many made-up definitions and returns. Of all kinds of values there must be enough, or it would hold little.
func TestMade(t *testing.T) {
	found := map[string]int{}
	for seed := range uint64(2500) {
		m := maker{rand.New(rand.NewPCG(seed, 18))}
		x := m.returnOf(t)
		rows, plain := slices.Collect(x.All()), x.Plain()
		got := x.model()
		saidOf(x).hold(got, m.away(x)...)
		if !slices.Equal(rows, slices.Collect(x.All())) || !store.Same(plain, x.Plain()) {
			t.Fatal("New has changed the return")
		}
		for c, v := range got.All() {
			if x.l[c.Row.Section].Items[c.Item].Kind == api.ItField {
				found["field"]++
				continue
			}
			found["depth "+strconv.Itoa(x.l[c.Row.Section].Depth)]++
			key := value.Text(v)
			if v.Kind == api.VNum || v.Kind == api.VText {
				key = []string{1: "number", 3: "text"}[v.Kind]
			}
			found[key]++
			env, _ := got.Env(c)
			found[strconv.Itoa(min(len(env.Names), 3))+" names"]++
			found[strconv.Itoa(min(len(env.Cols), 2))+" columns"]++
		}
	}
	for _, key := range []string{"field", "number", "text", "blank", "true", "false", "!1", "!3", "!4", "!5", "depth 1", "depth 2", "depth 3", "depth 4", "0 names", "1 names", "2 names", "3 names", "0 columns", "1 columns", "2 columns"} {
		if found[key] < 300 {
			t.Error("only", found[key], "cells of", key)
		}
	}

}

// TestMadeStays is P18.1 over made-up returns: what is done behind New changes nothing.
func TestMadeStays(t *testing.T) {
	for seed := range uint64(300) {
		m := maker{rand.New(rand.NewPCG(seed, 181))}
		x := m.returnOf(t)
		got := x.model()
		words := saidOf(ret{x.Clone(), t, x.l})
		for range 40 {
			m.change(x)
		}
		words.hold(got)
		saidOf(x).hold(x.model())
	}
}

// again is a return with the same Plain, whose rows came in another order of time, with values that were others for a while.
func (m maker) again(x ret) ret {
	y, _ := store.New(x.Schema())
	z := ret{y, x.t, x.l}
	now := map[api.Row]api.Row{root: root}
	wait := slices.Collect(x.All())[1:]
	m.Shuffle(len(wait), func(a, b int) { wait[a], wait[b] = wait[b], wait[a] })
	for len(wait) > 0 {
		r := wait[0]
		wait = wait[1:]
		if at, place, ok := stands(x, r, now); ok {
			if m.IntN(3) == 0 {
				gone, _ := z.Insert(at, r.Section, 0)
				z.Delete(gone)
			}
			now[r], _ = z.Insert(at, r.Section, place)
		} else {
			wait = append(wait, r)
		}
	}
	for r := range x.All() {
		for _, c := range fieldsOf(x, r) {
			to := cell(now[r], c.Item)
			m.put(z, to)
			z.Clear(to)
			if v, _ := x.Get(c); v.Kind != api.VBlank {
				z.Set(to, v)
			}
		}
	}
	return z
}

// stands is where a row of a return goes in one that has some of its rows by now, if the row around it is among these.
func stands(x ret, r api.Row, now map[api.Row]api.Row) (api.Row, int, bool) {
	parent := saidOf(x).outer(r, x.l[r.Section].Parent)
	at, ok := now[parent]
	place := 0
	for _, beside := range x.Rows(parent, r.Section) {
		if beside == r {
			break
		}
		if _, ok := now[beside]; ok {
			place++
		}
	}
	return at, place, ok
}

// TestMadeIds is P18.5 over made-up returns.
func TestMadeIds(t *testing.T) {
	for seed := range uint64(300) {
		m := maker{rand.New(rand.NewPCG(seed, 185))}
		x := m.returnOf(t)
		wantSamePlain(t, x, m.again(x))
		y, e := store.Fill(x.Schema(), x.Plain())
		if e != api.OK {
			t.Fatal("Fill", e)
		}
		wantSamePlain(t, x, ret{y, t, x.l})
	}
}

// TestMadeNotRead is P18.6 over made-up returns: a field that changes changes nothing but those that read it, by however many steps, and itself.
func TestMadeNotRead(t *testing.T) {
	alone, read := 0, 0
	for seed := range uint64(300) {
		m := maker{rand.New(rand.NewPCG(seed, 186))}
		x := m.returnOf(t)
		r := pickOf(m, slices.Collect(x.All()))
		for _, c := range fieldsOf(x, r) {
			before, below := allOf(x.model()), saidOf(x).below(c)
			was, _ := x.Get(c)
			m.put(x, c)
			now, _ := x.Get(c)
			if now == was {
				continue
			}
			if len(below) == 0 {
				alone++
			}
			for n, after := range allOf(x.model()) {
				switch {
				case after.cell != before[n].cell:
					t.Fatalf("a cell was %v and is %v", before[n], after)
				case after.cell == c && after.v != now:
					t.Fatalf("%v was set to %v, and is %v", c, now, after.v)
				case after.cell == c || after.v == before[n].v:
				case below[after.cell] == 0:
					t.Fatalf("%v changed %v, which does not read it, from %v to %v", c, after.cell, before[n].v, after.v)
				default:
					read++
				}
			}
		}
	}
	if alone < 50 || read < 50 {
		t.Error("little was read, or not read", alone, read)
	}
}
