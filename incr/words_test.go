package incr_test

import (
	"maps"
	"math/bits"
	"slices"

	"excise/api"
	"excise/deps"
	"excise/model"
	"excise/path"
	"excise/store"
)

// change is what store's own call makes of a return: what the change comes to, but for cells.
func change(x *store.Store, e api.Edit) api.Edited {
	c := cell(e.Row, e.Item)
	switch e.Kind {
	case api.EdInsert:
		r, wrong := x.Insert(e.Row, e.Section, e.Place)
		return api.Edited{Err: wrong, Row: r}
	case api.EdDelete:
		return api.Edited{Err: x.Delete(e.Row)}
	case api.EdMove:
		place, wrong := x.Move(e.Row, e.Place)
		return api.Edited{Err: wrong, Place: place}
	case api.EdSet:
		return api.Edited{Err: x.Set(c, e.Value)}
	case api.EdClear:
		return api.Edited{Err: x.Clear(c)}
	}
	return api.Edited{Err: api.ErrArg}
}

// first are the first cells of a change, as the chapter says, of the return behind it.
func first(was, now *store.Store, e api.Edit, r api.Row) []api.Cell {
	l := now.Schema().Sects()
	switch e.Kind {
	case api.EdInsert:
		return append(deps.Own(now, r), deps.Over(now, e.Row, e.Section)...)
	case api.EdDelete, api.EdMove:
		around, _ := path.Parent(l, e.Row)
		return deps.Over(now, around, e.Row.Section)
	}
	c := cell(e.Row, e.Item)
	before, _ := was.Get(c)
	if behind, _ := now.Get(c); before == behind {
		return nil
	}
	return deps.Users(now, c)
}

// said is what the chapter's words say that a change comes to, by models of the return ahead of it and behind it.
func said(was, now *store.Store, before, behind *model.Model, e api.Edit) api.Edited {
	want := change(now, e)
	if want.Err != api.OK {
		return want
	}
	*behind = *modelOf(now)
	changes := func(c api.Cell) bool {
		old, wrong := before.Value(c)
		v, _ := behind.Value(c)
		return wrong != api.OK || v != old
	}
	met := map[api.Cell]int{}
	wait := first(was, now, e, want.Row)
	for len(wait) > 0 {
		c := wait[0]
		wait = wait[1:]
		if met[c]++; met[c] == 1 && changes(c) {
			wait = append(wait, deps.Users(now, c)...)
		}
	}
	want.Reckoned = deps.Sort(now, slices.Collect(maps.Keys(met))...)
	for _, c := range want.Reckoned {
		if changes(c) {
			want.Changed = append(want.Changed, c)
		}
	}
	return want
}

func modelOf(x *store.Store) *model.Model {
	m, e := model.New(x)
	if e != api.OK {
		panic(e)
	}
	return m
}

// do makes a change, and holds what it comes to, and all that is told behind it, against the chapter's words.
func (x kept) do(e api.Edit) api.Edited {
	x.t.Helper()
	was := x.Store()
	now := was.Clone()
	before := modelOf(was)
	behind := *before
	want := said(was, now, before, &behind, e)
	steps, looked, most := x.Steps(), x.Looked(), mostRows(was)
	got := x.Do(e)
	if !sameEdited(got, want) {
		x.t.Fatalf("Do of %v: %d %v %d\nReckoned %s\nChanged %s\nnot %d %v %d\nReckoned %s\nChanged %s\nin %s", e,
			got.Err, got.Row, got.Place, x.text(got.Reckoned), x.text(got.Changed),
			want.Err, want.Row, want.Place, x.text(want.Reckoned), x.text(want.Changed), was.Schema().Text())
	}
	if x.Steps() != steps+int64(len(got.Reckoned)) {
		x.t.Fatalf("Steps: %d, not %d and %d", x.Steps(), steps, len(got.Reckoned))
	}
	x.holdLooked(x.Looked()-looked, got, max(most, mostRows(now)))
	x.hold(now, &behind)
	x.holdNeedful(was, now, e, got)
	return got
}

func sameEdited(a, b api.Edited) bool {
	return a.Err == b.Err && a.Row == b.Row && a.Place == b.Place && slices.Equal(a.Reckoned, b.Reckoned) && slices.Equal(a.Changed, b.Changed)
}

// mostRows is how many rows the longest section within a row has.
func mostRows(x *store.Store) int {
	most := 0
	for r := range x.All() {
		for section := range x.Schema().Sects() {
			most = max(most, len(x.Rows(r, section)))
		}
	}
	return most
}

// holdLooked holds how many nodes a change looked at against P20.4.
func (x kept) holdLooked(looked int64, got api.Edited, most int) {
	x.t.Helper()
	bound := int64(64 * (1 + len(got.Reckoned)) * (1 + bits.Len(uint(most))))
	if looked < 0 || looked > bound || got.Err != api.OK && looked != 0 {
		x.t.Fatalf("%d nodes were looked at for %d cells, of at most %d rows", looked, len(got.Reckoned), most)
	}
	if (got.Row != root || got.Place > 0) && looked == 0 {
		x.t.Fatal("a tree was changed, and nothing was looked at")
	}
}

// hold holds all that is told against a return, and what a model of it says: P20.1 and P20.5.
func (x kept) hold(now *store.Store, want *model.Model) {
	x.t.Helper()
	lines := map[api.Cell]api.Value{}
	for r := range now.All() {
		for item, of := range x.l[r.Section].Items {
			c := cell(r, item)
			v, _ := want.Value(c)
			if got, e := x.Value(c); got != v || e != api.OK {
				x.t.Fatalf("Value of %s: %v %d, not %v, in %s", x.text([]api.Cell{c}), got, e, v, now.Schema().Text())
			}
			if of.Kind != api.ItField {
				lines[c] = v
			}
		}
		for section := range x.l {
			for item := range x.l[section].Items {
				x.holdCol(want, r, section, item)
			}
		}
	}
	if got := x.Lines(); !maps.Equal(got, lines) {
		x.t.Fatalf("Lines: %v, not %v", got, lines)
	}
	got := x.Store()
	if !slices.Equal(slices.Collect(got.All()), slices.Collect(now.All())) || got.Next() != now.Next() || !store.Same(got.Plain(), now.Plain()) {
		x.t.Fatal("Store tells another return")
	}
}

func (x kept) holdCol(want *model.Model, at api.Row, section, item int) {
	x.t.Helper()
	sum, wrong := want.Col(at, section, item)
	if got, e := x.Col(at, section, item); got != sum || e != wrong {
		x.t.Fatalf("Col of %v, %d, %d: %v %d, not %v %d", at, section, item, got, e, sum, wrong)
	}
}

// holdNeedful is P20.6: nothing is reckoned but the first cells and what may hang on what has changed. What a row that is put in brings with it are its fields.
func (x kept) holdNeedful(was, now *store.Store, e api.Edit, got api.Edited) {
	x.t.Helper()
	if got.Err != api.OK {
		return
	}
	begin := first(was, now, e, got.Row)
	may := append(deps.Dirty(now, got.Changed...), begin...)
	for _, c := range got.Reckoned {
		if !slices.Contains(may, c) {
			x.t.Fatalf("%s was reckoned needlessly", x.text([]api.Cell{c}))
		}
	}
}
