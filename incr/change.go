package incr

import (
	"slices"

	"excise/aggtree"
	"excise/api"
	"excise/deps"
	"excise/path"
)

// Do makes a change, and reckons anew what has to be.
func (m *Incr) Do(e api.Edit) api.Edited {
	if !m.made() {
		return api.Edited{Err: api.ErrMade}
	}
	c := api.Cell{Row: e.Row, Item: e.Item}
	switch e.Kind {
	case api.EdInsert:
		return m.insert(e.Row, e.Section, e.Place)
	case api.EdDelete:
		return m.delete(e.Row)
	case api.EdMove:
		return m.move(e.Row, e.Place)
	case api.EdSet:
		return m.fill(c, e.Value, func() api.Errno { return m.store.Set(c, e.Value) })
	case api.EdClear:
		return m.fill(c, api.Value{}, func() api.Errno { return m.store.Clear(c) })
	}
	return api.Edited{Err: api.ErrArg}
}

func (m *Incr) insert(at api.Row, section, place int) api.Edited {
	r, e := m.store.Insert(at, section, place)
	if e != api.OK {
		return api.Edited{Err: e}
	}
	m.put(r, place)
	done := m.settle(slices.Concat(deps.Own(m.store, r), deps.Over(m.store, at, section)))
	done.Row = r
	return done
}

func (m *Incr) delete(r api.Row) api.Edited {
	gone := m.within(r)
	if e := m.store.Delete(r); e != api.OK {
		return api.Edited{Err: e}
	}
	around := m.around(r)
	m.look(around, func(rows *aggtree.Tree) { rows.Delete(path.Id(m.plan.sects, r)) })
	for _, row := range gone {
		m.drop(row)
	}
	return m.settle(deps.Over(m.store, around.at, around.section))
}

func (m *Incr) move(r api.Row, to int) api.Edited {
	was, e := m.store.Move(r, to)
	if e != api.OK {
		return api.Edited{Err: e}
	}
	around := m.around(r)
	m.look(around, func(rows *aggtree.Tree) { rows.Move(path.Id(m.plan.sects, r), to) })
	done := m.settle(deps.Over(m.store, around.at, around.section))
	done.Place = was
	return done
}

// fill lets a field have a value, or none. If that is the one that it had, nothing is reckoned.
func (m *Incr) fill(c api.Cell, now api.Value, change func() api.Errno) api.Edited {
	was, _ := m.store.Get(c)
	if e := change(); e != api.OK {
		return api.Edited{Err: e}
	}
	if now == was {
		return api.Edited{}
	}
	m.mend(c, now)
	return m.settle(m.users(c))
}
