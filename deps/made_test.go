package deps_test

import (
	"math/rand/v2"
	"slices"
	"strconv"
	"strings"
	"testing"

	"excise/api"
	"excise/deps"
	"excise/store"
)

// What the chapter's words say of a return, slowly and plainly: of each two cells whether one reads the other.
type said struct {
	ret
	rows  []api.Row
	every []api.Cell
	reads map[spot][]spot // what items read
	ranks map[spot]int
	told  map[api.Cell][]api.Cell // what cells read, in the order of rows
	users map[api.Cell][]api.Cell
}

type spot struct{ section, item int }

func saidOf(x ret) *said {
	m := &said{x, slices.Collect(x.All()), x.everyCell(), map[spot][]spot{}, map[spot]int{}, map[api.Cell][]api.Cell{}, map[api.Cell][]api.Cell{}}
	for section := range x.l {
		for item := range x.l[section].Items {
			m.reads[spot{section, item}] = m.readBy(section, x.l[section].Items[item].Expr)
		}
	}
	for at := range m.reads {
		m.ranks[at] = m.rank(at)
	}
	for _, user := range m.every {
		for _, read := range m.every {
			if m.does(user, read) {
				m.told[user] = append(m.told[user], read)
				m.users[read] = append(m.users[read], user)
			}
		}
	}
	return m
}

// nodes are all nodes of an expression.
func nodes(x api.Expr) []api.Expr {
	l := []api.Expr{x}
	for _, arg := range x.Args {
		l = append(l, nodes(arg)...)
	}
	return l
}

// find is the item of a name in a section, if it may be read.
func (m *said) find(section int, name string) int {
	return slices.IndexFunc(m.l[section].Items, func(i api.Item) bool { return i.Name == name && i.Kind != api.ItCheck })
}

func (m *said) kid(section int, name string) int {
	return slices.IndexFunc(m.l, func(s api.Sect) bool { return s.Parent == section && s.Name == name })
}

func (m *said) readBy(section int, x api.Expr) []spot {
	var l []spot
	for _, node := range nodes(x) {
		switch {
		case node.Kind == api.ExName:
			at := section
			for m.find(at, node.Name) < 0 {
				at = m.l[at].Parent
			}
			l = append(l, spot{at, m.find(at, node.Name)})
		case node.Kind == api.ExAgg && node.Op != api.AgRows:
			kid := m.kid(section, node.Section)
			l = append(l, spot{kid, m.find(kid, node.Name)})
		}
	}
	return l
}

// outer is the row around a row whose section is as deep as that.
func (m *said) outer(r api.Row, section int) api.Row {
	r.Section = section
	for n := m.l[section].Depth - 1; n < len(r.Ids); n++ {
		r.Ids[n] = 0
	}
	return r
}

func of(c api.Cell) spot { return spot{c.Row.Section, c.Item} }

// does tells whether a cell that is there reads another one.
func (m *said) does(user, read api.Cell) bool {
	if !slices.Contains(m.reads[of(user)], of(read)) {
		return false
	}
	if m.l[read.Row.Section].Parent == user.Row.Section {
		return m.outer(read.Row, user.Row.Section) == user.Row
	}
	return m.outer(user.Row, read.Row.Section) == read.Row
}

// such are those cells of a return that are such.
func (m *said) such(is func(c api.Cell) bool) []api.Cell {
	var l []api.Cell
	for _, c := range m.every {
		if is(c) {
			l = append(l, c)
		}
	}
	return l
}

func (m *said) rank(at spot) int {
	n := 0
	for _, read := range m.reads[at] {
		n = max(n, m.rank(read)+1)
	}
	return n
}

// sort is cells by rank; they stand in the order of rows.
func (m *said) sort(l []api.Cell) []api.Cell {
	slices.SortStableFunc(l, func(a, b api.Cell) int { return m.ranks[of(a)] - m.ranks[of(b)] })
	return l
}

func (m *said) dirty(l []api.Cell) []api.Cell {
	met := map[api.Cell]int{}
	wait := m.such(func(c api.Cell) bool { return slices.Contains(l, c) })
	for len(wait) > 0 {
		for _, user := range m.users[wait[0]] {
			if met[user] == 0 {
				met[user]++
				wait = append(wait, user)
			}
		}
		wait = wait[1:]
	}
	return m.sort(m.such(func(c api.Cell) bool { return met[c] > 0 }))
}

func (m *said) reckoned(c api.Cell) bool {
	return m.l[c.Row.Section].Items[c.Item].Kind != api.ItField
}

// over tells whether a cell's item goes over a section's rows.
func (m *said) over(c api.Cell, section int) bool {
	return slices.ContainsFunc(nodes(m.l[c.Row.Section].Items[c.Item].Expr), func(x api.Expr) bool {
		return x.Kind == api.ExAgg && m.kid(c.Row.Section, x.Section) == section
	})
}

func (m *said) hold(what string, got, want []api.Cell) {
	m.t.Helper()
	if !slices.Equal(got, want) {
		m.t.Fatalf("%s: %s\nnot: %s\nin %s", what, m.text(got), m.text(want), m.Schema().Text())
	}
}

// holdCells holds Reads, Users, Rank and Dirty of each cell, and of some that are not there, against the words.
func (m *said) holdCells(away []api.Cell) {
	m.t.Helper()
	for _, c := range append(slices.Clone(m.every), away...) {
		rank := 0
		if slices.Contains(m.every, c) {
			rank = m.ranks[of(c)]
		}
		if got := deps.Rank(m.Store, c); got != rank {
			m.t.Fatalf("Rank of %v: %d, not %d, in %s", c, got, rank, m.Schema().Text())
		}
		m.hold("Reads", deps.Reads(m.Store, c), m.told[c])
		m.hold("Users", deps.Users(m.Store, c), m.users[c])
	}
}

// holdRows holds Cells, and Own and Over of each row, and of some that are not there, against the words.
func (m *said) holdRows(away []api.Row) {
	m.t.Helper()
	m.hold("Cells", deps.Cells(m.Store), m.such(m.reckoned))
	for _, r := range append(slices.Clone(m.rows), away...) {
		m.hold("Own", deps.Own(m.Store, r), m.such(func(c api.Cell) bool { return c.Row == r && m.reckoned(c) }))
		for section := -1; section <= len(m.l); section++ {
			isKid := section >= 0 && section < len(m.l) && m.l[section].Parent == r.Section
			m.hold("Over", deps.Over(m.Store, r, section), m.such(func(c api.Cell) bool { return c.Row == r && isKid && m.over(c, section) }))
		}
	}
}

// A maker makes up definitions, and returns of them.
type maker struct{ *rand.Rand }

func (m maker) pick(l ...int) int { return l[m.IntN(len(l))] }

func pickOf[T any](m maker, l []T) T { return l[m.IntN(len(l))] }

// A part is a section that is made up; parts of one depth have items of the same names.
type part struct {
	parent, depth int
	name          string
	items         []made
}

// A made item reads those of lesser turns alone; turns have nothing to do with places.
type made struct {
	name, word string
	turn       int
}

func (m maker) parts() []part {
	list := []part{{parent: -1, depth: 1}}
	for range m.pick(0, 1, 3, 5, 8) {
		parent := m.pick(m.IntN(len(list)), len(list)-1)
		if list[parent].depth < api.MaxDepth {
			list = append(list, part{parent: parent, depth: list[parent].depth + 1, name: "s" + strconv.Itoa(list[parent].depth) + "x" + strconv.Itoa(len(list))})
		}
	}
	many := 0
	for n := range list {
		for i := range m.pick(0, 2, 3, 4, 5, 7) {
			list[n].items = append(list[n].items, made{name: string(rune('a'+list[n].depth)) + strconv.Itoa(i), word: pickOf(m, []string{"field", "field", "line", "line", "line", "check"})})
			many++
		}
	}
	turns := m.Perm(many)
	for n := range list {
		for i := range list[n].items {
			list[n].items[i].turn, turns = turns[0], turns[1:]
		}
	}
	return list
}

// leaves are what an item of a part may read: names and columns.
func (m maker) leaves(list []part, at, turn int) []string {
	l := []string{"1"}
	for _, kid := range list {
		if kid.parent != at {
			continue
		}
		l = append(l, "rows ( "+kid.name+" )")
		for _, item := range kid.items {
			if item.turn < turn && item.word != "check" {
				l = append(l, pickOf(m, []string{"sum", "count", "min", "max"})+" ( "+kid.name+" . "+item.name+" )")
			}
		}
	}
	for ; at >= 0; at = list[at].parent {
		for _, item := range list[at].items {
			if item.turn < turn && item.word != "check" {
				l = append(l, item.name)
			}
		}
	}
	return l
}

// expr is of numbers: what an operator does is nothing to deps.
func (m maker) expr(leaves []string, depth int) string {
	sub := func() string { return m.expr(leaves, depth-1) }
	if depth <= 0 || m.IntN(8) == 0 {
		return pickOf(m, leaves)
	}
	switch m.IntN(6) {
	case 0:
		return "if ( " + pickOf(m, leaves) + " < " + pickOf(m, leaves) + " , " + sub() + " , " + sub() + " )"
	case 1:
		return "round ( " + sub() + " , 0 , up )"
	case 2:
		return "( - ( " + sub() + " ) )"
	case 3:
		return "tab ( " + sub() + " )"
	}
	return "( " + sub() + " + " + sub() + " )"
}

// definition is a text that is accepted.
func (m maker) definition() string {
	list := m.parts()
	var b strings.Builder
	var write func(at int)
	write = func(at int) {
		for _, item := range list[at].items {
			x := m.expr(m.leaves(list, at, item.turn), m.pick(0, 1, 2, 3, 3))
			b.WriteString(item.word + " " + item.name)
			b.WriteString(map[string]string{"field": " : amount 0 ; ", "line": " : amount 0 up = " + x + " ; ", "check": " = " + x + " > 0 ; "}[item.word])
		}
		for n, kid := range list {
			if kid.parent == at {
				b.WriteString("section " + kid.name + " max 9 { ")
				write(n)
				b.WriteString("} ")
			}
		}
	}
	write(0)
	return "return r { " + b.String() + "table tab { from 0 base 1 rate 0.5 ; } }"
}

// change changes a return: rows come more often than they go.
func (m maker) change(x ret) {
	rows := slices.Collect(x.All())
	r := pickOf(m, rows)
	switch m.IntN(10) {
	case 0:
		if m.IntN(3) == 0 {
			x.Delete(r)
		}
	case 1, 2, 3:
		x.Move(r, m.IntN(3))
	default:
		section := m.IntN(len(x.l))
		rows = slices.DeleteFunc(rows, func(r api.Row) bool { return r.Section != x.l[section].Parent })
		if len(rows) > 0 {
			r = pickOf(m, rows)
			x.Insert(r, section, m.IntN(len(x.Rows(r, section))+1))
		}
	}
}

// returnOf is a made-up return of a made-up definition.
func (m maker) returnOf(t *testing.T, changes ...int) ret {
	t.Helper()
	x := retOf(t, m.definition())
	for range m.pick(changes...) {
		m.change(x)
	}
	return x
}

// some are cells that are there, any number of times.
func (m maker) some(l []api.Cell) []api.Cell {
	var list []api.Cell
	if len(l) > 0 {
		for range m.pick(0, 1, 2, 3, 8) {
			list = append(list, pickOf(m, l))
		}
	}
	return list
}

// away are rows and cells that are not there, or are none.
func (m maker) away(x ret) ([]api.Row, []api.Cell) {
	var rows []api.Row
	for range 6 {
		r := row(m.IntN(len(x.l)+2)-1, int64(m.IntN(8)), int64(m.IntN(8)), int64(m.IntN(8)))
		if m.IntN(2) == 0 {
			r = pickOf(m, slices.Collect(x.All()))
			r.Ids[m.IntN(len(r.Ids))] += int64(m.IntN(3))
		}
		if !x.Has(r) {
			rows = append(rows, r)
		}
	}
	var cells []api.Cell
	for _, r := range rows {
		cells = append(cells, cell(r, m.IntN(4)))
	}
	r := pickOf(m, slices.Collect(x.All()))
	return rows, append(cells, cell(r, -1), cell(r, len(x.l[r.Section].Items)))
}

// TestMade is P19.1 to P19.3 over many made-up definitions and returns. Of all that may be told there must be enough, or it would hold little.
func TestMade(t *testing.T) {
	found := map[string]int{}
	for seed := range uint64(700) {
		m := maker{rand.New(rand.NewPCG(seed, 19))}
		x := m.returnOf(t, 0, 5, 20, 50, 100)
		words := saidOf(x)
		rows, plain := slices.Collect(x.All()), x.Plain()
		awayRows, awayCells := m.away(x)
		words.holdRows(awayRows)
		words.holdCells(awayCells)
		for range 6 {
			l := append(m.some(words.every), m.some(awayCells)...)
			m.Shuffle(len(l), func(a, b int) { l[a], l[b] = l[b], l[a] })
			words.hold("Sort", deps.Sort(x.Store, l...), words.sort(words.such(func(c api.Cell) bool { return slices.Contains(l, c) })))
			words.hold("Dirty", deps.Dirty(x.Store, l...), words.dirty(l))
		}
		if !slices.Equal(rows, slices.Collect(x.All())) || !store.Same(plain, x.Plain()) {
			t.Fatal("the return was changed")
		}
		words.count(found)
	}
	for _, key := range []string{"own", "around", "further out", "column", "0 reads", "1 reads", "2 reads", "4 reads", "0 users", "1 users", "2 users", "4 users", "rank 0", "rank 1", "rank 2", "rank 4", "2 over", "dirty"} {
		if found[key] < 300 {
			t.Error("only", found[key], "times", key)
		}
	}
}

// count counts what cells read, and what is told of them.
func (m *said) count(found map[string]int) {
	for _, c := range m.every {
		reads := deps.Reads(m.Store, c)
		for _, read := range reads {
			found[m.away(c, read)]++
		}
		found[strconv.Itoa(min(len(reads), 4))+" reads"]++
		found[strconv.Itoa(min(len(deps.Users(m.Store, c)), 4))+" users"]++
		found["rank "+strconv.Itoa(min(deps.Rank(m.Store, c), 4))]++
	}
	for _, r := range m.rows {
		for section := range m.l {
			found[strconv.Itoa(len(deps.Over(m.Store, r, section)))+" over"]++
		}
	}
	found["dirty"] += len(deps.Dirty(m.Store, m.every...))
}

// away tells how far away what a cell reads stands.
func (m *said) away(c, read api.Cell) string {
	switch m.l[c.Row.Section].Depth - m.l[read.Row.Section].Depth {
	case 0:
		return "own"
	case -1:
		return "column"
	case 1:
		return "around"
	}
	return "further out"
}

// TestBoth is P19.4 over made-up returns: Reads and Users say the same of any two cells.
func TestBoth(t *testing.T) {
	many := 0
	for seed := range uint64(600) {
		x := maker{rand.New(rand.NewPCG(seed, 194))}.returnOf(t, 10, 30, 60)
		every := x.everyCell()
		pairs := map[[2]api.Cell]int{}
		for _, c := range every {
			for _, read := range deps.Reads(x.Store, c) {
				pairs[[2]api.Cell{c, read}]++
				many++
			}
			for _, user := range deps.Users(x.Store, c) {
				pairs[[2]api.Cell{user, c}] += 2
			}
		}
		for pair, n := range pairs {
			if n != 3 {
				t.Fatalf("%s are told by %d, in %s", x.text(pair[:]), n, x.Schema().Text())
			}
		}
	}
	if many < 10000 {
		t.Error("only", many, "reads")
	}
}

// TestForward is P19.5 over made-up returns.
func TestForward(t *testing.T) {
	for seed := range uint64(600) {
		x := maker{rand.New(rand.NewPCG(seed, 195))}.returnOf(t, 10, 30, 60)
		for _, c := range x.everyCell() {
			for _, read := range deps.Reads(x.Store, c) {
				if deps.Rank(x.Store, c) <= deps.Rank(x.Store, read) {
					t.Fatalf("%s has no greater rank, in %s", x.text([]api.Cell{c, read}), x.Schema().Text())
				}
			}
			if slices.Contains(deps.Dirty(x.Store, c), c) {
				t.Fatalf("%s is among its own Dirty, in %s", x.text([]api.Cell{c}), x.Schema().Text())
			}
		}
	}
}

// TestDirtyOfEach is P19.6 over made-up returns.
func TestDirtyOfEach(t *testing.T) {
	for seed := range uint64(600) {
		m := maker{rand.New(rand.NewPCG(seed, 196))}
		x := m.returnOf(t, 10, 30, 60)
		l := m.some(x.everyCell())
		got := deps.Dirty(x.Store, l...)
		var each, users []api.Cell
		for _, c := range l {
			each = append(each, deps.Dirty(x.Store, c)...)
			users = append(users, deps.Users(x.Store, c)...)
		}
		if !slices.Equal(got, deps.Sort(x.Store, each...)) {
			t.Fatalf("Dirty of %s is not that of each, in %s", x.text(l), x.Schema().Text())
		}
		if !slices.Equal(got, deps.Sort(x.Store, append(users, deps.Dirty(x.Store, users...)...)...)) {
			t.Fatalf("Dirty of %s is not that of its Users and these, in %s", x.text(l), x.Schema().Text())
		}
	}
}

// TestMadeChanges: behind each change the next call tells of the rows as they are then.
func TestMadeChanges(t *testing.T) {
	for seed := range uint64(120) {
		m := maker{rand.New(rand.NewPCG(seed, 197))}
		x := m.returnOf(t, 5, 20)
		for range 12 {
			m.change(x)
			words := saidOf(x)
			words.holdRows(nil)
			words.holdCells(nil)
			l := m.some(words.every)
			words.hold("Dirty", deps.Dirty(x.Store, l...), words.dirty(l))
		}
	}
}
