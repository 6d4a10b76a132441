package ranks

import (
	"math/rand"
	"slices"
	"strings"
	"testing"

	"excise/api"
	"excise/grammar"
	"excise/scope"
)

// A web is what the chapter's words say of a list, reckoned slowly: who reads whom, and who does by however many steps.
type web struct {
	reads, reaches [][]bool
}

func square(many int) [][]bool {
	l := make([][]bool, many)
	for n := range l {
		l[n] = make([]bool, many)
	}
	return l
}

func webOf(l []api.Sect) *web {
	all, many := items(l)
	w := &web{square(many), square(many)}
	firsts := make([]int, len(l))
	n := 0
	for section := range l {
		firsts[section] = n
		n += len(l[section].Items)
	}
	n = 0
	for section := range l {
		for range l[section].Items {
			if all[n].Kind != api.ItField {
				wait := []api.Expr{all[n].Expr}
				for ; len(wait) > 0; wait = wait[1:] {
					if at, item, ok := readBy(l, section, wait[0]); ok {
						w.reads[n][firsts[at]+item] = true
					}
					wait = append(wait, wait[0].Args...)
				}
			}
			n++
		}
	}
	w.close()
	return w
}

// readBy is the section and the item that one node reads in a section, by scope's own words.
func readBy(l []api.Sect, section int, x api.Expr) (int, int, bool) {
	switch x.Kind {
	case api.ExName:
		return scope.Find(l, section, x.Name)
	case api.ExAgg:
		kid, ok := scope.Kid(l, section, x.Section)
		if !ok || x.Op == api.AgRows {
			return 0, 0, false
		}
		item := slices.IndexFunc(l[kid].Items, func(i api.Item) bool {
			return i.Name == x.Name && (i.Kind == api.ItField || i.Kind == api.ItLine)
		})
		return kid, item, item >= 0
	}
	return 0, 0, false
}

// close finds who reads whom by one step or more.
func (w *web) close() {
	for n := range w.reads {
		copy(w.reaches[n], w.reads[n])
	}
	for by := range w.reaches {
		for n := range w.reaches {
			for m := range w.reaches {
				if w.reaches[n][by] && w.reaches[by][m] {
					w.reaches[n][m] = true
				}
			}
		}
	}
}

// chosen are the numbers of which something holds.
func chosen(many int, holds func(n int) bool) []int {
	var l []int
	for n := range many {
		if holds(n) {
			l = append(l, n)
		}
	}
	return l
}

func (w *web) stuck() []int {
	return chosen(len(w.reads), func(n int) bool {
		return w.reaches[n][n] || len(chosen(len(w.reads), func(m int) bool { return w.reaches[n][m] && w.reaches[m][m] })) > 0
	})
}

// ranks are the items' ranks, if nothing is stuck: as long as one is not above all that it reads, it is lifted.
func (w *web) ranks() []int {
	l := make([]int, len(w.reads))
	for again := true; again; {
		again = false
		for n := range l {
			for m := range l {
				if w.reads[n][m] && l[n] <= l[m] {
					l[n] = l[m] + 1
					again = true
				}
			}
		}
	}
	return l
}

// inOrder are all numbers by ranks, those of one rank rising.
func inOrder(ranks []int) []int {
	var l []int
	for rank := range len(ranks) {
		l = append(l, chosen(len(ranks), func(n int) bool { return ranks[n] == rank })...)
	}
	return l
}

// reach holds all that is said of a list against its web, and what follows of it (P11.4 to P11.6).
func reach(t *testing.T, l []api.Sect) *web {
	t.Helper()
	w := webOf(l)
	many := len(w.reads)
	for n := range many {
		wantReads(t, l, n, chosen(many, func(m int) bool { return w.reads[n][m] })...)
		wantUsers(t, l, n, chosen(many, func(m int) bool { return w.reads[m][n] })...)
		wantBelow(t, l, n, chosen(many, func(m int) bool { return w.reaches[m][n] })...)
	}
	stuck := w.stuck()
	wantStuck(t, l, stuck...)
	if len(stuck) > 0 {
		wantRanks(t, l, nil, nil)
	} else {
		ranks := append([]int{}, w.ranks()...)
		wantRanks(t, l, ranks, inOrder(ranks))
	}
	holdOrder(t, l)
	holdCycle(t, l)
	holdBelow(t, l)
	return w
}

// P11.4, by what the calls themselves say.
func holdOrder(t *testing.T, l []api.Sect) {
	t.Helper()
	order, e := Order(l)
	if e != api.OK {
		return
	}
	places := make([]int, len(order))
	for place, n := range order {
		places[n] = place
	}
	for n := range places {
		for _, read := range Reads(l, n) {
			if places[read] >= places[n] {
				t.Errorf("%d reads %d, and stands ahead of it in %d", n, read, order)
			}
		}
	}
}

// P11.5, by what the calls themselves say.
func holdCycle(t *testing.T, l []api.Sect) {
	t.Helper()
	_, many := items(l)
	own := chosen(many, func(n int) bool { return slices.Contains(Below(l, n), n) })
	_, e := Ranks(l)
	_, f := Order(l)
	if stuck := Stuck(l); (e == api.ErrCycle) != (len(stuck) > 0) || (e == api.ErrCycle) != (len(own) > 0) || e != f {
		t.Errorf("Ranks is %d, Order %d, Stuck is %d, in their own Below are %d, of %+v", e, f, stuck, own, l)
	}
}

// P11.6, by what the calls themselves say.
func holdBelow(t *testing.T, l []api.Sect) {
	t.Helper()
	_, many := items(l)
	for n := range many {
		want := Users(l, n)
		for _, user := range Users(l, n) {
			want = append(want, Below(l, user)...)
		}
		slices.Sort(want)
		wantBelow(t, l, n, slices.Compact(want)...)
	}
}

// A maker makes up lists.
type maker struct{ *rand.Rand }

// few names, so that they meet
var madeNames = strings.Fields("a b c d e f")

func (m maker) name() string { return madeNames[m.Intn(len(madeNames))] }

func (m maker) expr(room int) api.Expr {
	x := api.Expr{Kind: api.ExName, Op: 1 + m.Intn(11), Name: m.name(), Section: m.name()}
	switch m.Intn(8) {
	case 0, 1:
		x.Kind, x.Op = api.ExAgg, api.AgSum+m.Intn(5)
	case 2:
		x.Kind = m.Intn(14) - 1
	case 3, 4:
		x.Kind = api.ExOp
	}
	if room > 0 {
		for range m.Intn(4) * m.Intn(2) {
			x.Args = append(x.Args, m.expr(room-1))
		}
	}
	return x
}

func (m maker) item() api.Item {
	item := api.Item{Name: m.name(), Kind: 1 + m.Intn(3), Expr: m.expr(3)}
	if m.Intn(12) == 0 {
		item.Kind = m.Intn(7) - 1
	}
	return item
}

// list makes a list as Flat tells it, or a raw one.
func (m maker) list(raw bool) []api.Sect {
	var l []api.Sect
	sections := 1 + m.Intn(6)
	for n := range sections {
		s := api.Sect{Parent: -1, Name: m.name()}
		switch {
		case raw && m.Intn(8) == 0:
			s.Parent = m.Intn(sections+6) - 3
		case raw:
			s.Parent = m.Intn(sections)
		case n > 0:
			s.Parent = m.Intn(n)
		}
		for range m.Intn(5) {
			s.Items = append(s.Items, m.item())
		}
		l = append(l, s)
	}
	return l
}

// P11.2 to P11.6: made-up lists against the chapter's words, with and without cycles, as Flat tells them and raw.
func TestMade(t *testing.T) {
	told := map[string]int{}
	for seed := range int64(6000) {
		m := maker{rand.New(rand.NewSource(seed))}
		raw := seed%2 == 0
		w := reach(t, m.list(raw))
		kind := "flat"
		if raw {
			kind = "raw"
		}
		if stuck := len(w.stuck()); stuck > 0 && stuck < len(w.reads) {
			told[kind+" stuck"]++
		} else if stuck == 0 && slices.Contains(w.ranks(), 2) {
			told[kind+" ranked"]++
		}
	}
	for _, kind := range []string{"flat stuck", "flat ranked", "raw stuck", "raw ranked"} {
		if told[kind] < 100 {
			t.Errorf("%s: only %d times", kind, told[kind])
		}
	}
}

// P11.3 to P11.6: made-up lists without cycles, many items of which read one another over sections, whatever order they stand in.
func TestMadeRanked(t *testing.T) {
	deepest := 0
	for seed := range int64(400) {
		m := maker{rand.New(rand.NewSource(seed))}
		const many = 24
		level := m.Perm(many)
		var made []api.Item
		for n := range many {
			args := []api.Expr{{Kind: api.ExConst}}
			for read := range many {
				if level[read] < level[n] && m.Intn(6) == 0 {
					args = append(args, name(numbered(read)))
				}
			}
			made = append(made, line(numbered(n), plus(args...)))
		}
		at := m.Intn(many)
		l := []api.Sect{{Parent: -1, Items: made[:at]}, {Parent: 2}, {Parent: 0, Items: made[at:]}}
		// What the first section reads of the other one it reads of all its rows.
		l[2].Name = "s"
		for i := range l[0].Items {
			args := l[0].Items[i].Expr.Args
			for j := range args {
				if args[j].Kind == api.ExName && !slices.ContainsFunc(l[0].Items, func(of api.Item) bool { return of.Name == args[j].Name }) {
					args[j] = column(api.AgSum, "s", args[j].Name)
				}
			}
		}
		w := reach(t, l)
		if len(w.stuck()) > 0 {
			t.Fatal("what is made without a cycle has one")
		}
		deepest = max(deepest, slices.Max(w.ranks()))
	}
	if deepest < 8 {
		t.Error("the deepest rank is", deepest)
	}
}

// P11.3 and grammar: what a text says, reads what its list says, however the definition's sections stand.
func TestMadeTexts(t *testing.T) {
	for _, text := range []string{
		"return r { }",
		"return r { field a : flag ; line b : flag = a ; check c = b and a ; }",
		"return r { section s max 1 { section u max 1 { field q : amount 0 ; line t : amount 0 up = q + top ; } line m : amount 0 up = max ( u . t ) ; } line top : amount 0 up = 1 ; line all : amount 0 up = sum ( s . m ) + min ( s . m ) ; }",
		"return r { section s max 1 { section u max 1 { field q : amount 0 ; line t : amount 0 up = q + all ; } line m : amount 0 up = max ( u . t ) ; } line top : amount 0 up = 1 ; line all : amount 0 up = sum ( s . m ) + top ; }",
	} {
		d, _, e := grammar.Parse(text)
		if e != api.OK {
			t.Fatal(text, e)
		}
		reach(t, scope.Flat(d))
	}
}
