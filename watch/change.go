package watch

import (
	"excise/api"
	"excise/rules"
)

// Do makes a change, and asks those cells for their faults that have another value then, or are new.
func (w *Watch) Do(e api.Edit) api.Edited {
	if !w.made() {
		return api.Edited{Err: api.ErrMade}
	}
	field := api.Cell{Row: e.Row, Item: e.Item}
	was, _ := w.Incr.Value(field)
	done := w.Incr.Do(e)
	if done.Err != api.OK {
		return done
	}
	switch e.Kind {
	case api.EdInsert:
		w.insert(done)
		return done
	case api.EdDelete:
		w.drop(e.Row)
	case api.EdSet, api.EdClear:
		if now, _ := w.Incr.Value(field); now != was {
			w.ask(field)
		}
	}
	for _, c := range done.Changed {
		w.ask(c)
	}
	return done
}

// insert asks the cells of a row that was put in, and what has changed beside them.
func (w *Watch) insert(done api.Edited) {
	for item := range w.sects[done.Row.Section].Items {
		w.ask(api.Cell{Row: done.Row, Item: item})
	}
	for _, c := range done.Changed {
		if c.Row != done.Row {
			w.ask(c)
		}
	}
}

// drop forgets the faults of a row that is gone, and of all rows within it: they have its id where it has that, and no other row ever has it.
func (w *Watch) drop(gone api.Row) {
	own := w.sects[gone.Section].Depth - 2
	for c := range w.faults {
		if c.Row.Ids[own] == gone.Ids[own] {
			delete(w.faults, c)
		}
	}
}

// ask asks a cell that is there for its fault.
func (w *Watch) ask(c api.Cell) {
	w.asked++
	v, _ := w.Incr.Value(c)
	kind, err := rules.One(w.sects[c.Row.Section].Items[c.Item], v)
	if kind == 0 {
		delete(w.faults, c)
		return
	}
	w.faults[c] = api.Fault{Kind: kind, Err: err, Cell: c}
}
