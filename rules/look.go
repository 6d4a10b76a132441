package rules

import (
	"excise/api"
	"excise/path"
	"excise/store"
)

// A look is a return with its sections and the names of what is skipped, so that a call takes these once for all its cells.
type look struct {
	store *store.Store
	sects []api.Sect
	names map[string]struct{}
}

func lookAt(x *store.Store, names []string) *look {
	l := &look{store: x, sects: x.Schema().Sects(), names: map[string]struct{}{}}
	for _, name := range names {
		l.names[name] = struct{}{}
	}
	return l
}

// item is the item of a cell whose row is there; where there is none, one without a Kind, which has no fault. The section is asked for, too: a schema's owner may have overwritten it.
func (l *look) item(c api.Cell) api.Item {
	if c.Row.Section >= len(l.sects) {
		return api.Item{}
	}
	items := l.sects[c.Row.Section].Items
	if c.Item < 0 || c.Item >= len(items) {
		return api.Item{}
	}
	return items[c.Item]
}

// skips is Skipped, of a cell whose row is there.
func (l *look) skips(c api.Cell) bool {
	section := c.Row.Section
	if section == 0 {
		item := l.item(c)
		return item.Kind == api.ItField && l.named(item.Name)
	}
	if section >= len(l.sects) {
		return false
	}
	for l.sects[section].Parent > 0 {
		section = l.sects[section].Parent
	}
	return l.named(l.sects[section].Name)
}

func (l *look) named(name string) bool {
	_, ok := l.names[name]
	return ok
}

// stand is At, of a row that is there: the root stands in no row.
func (l *look) stand(r api.Row) []int {
	around, ok := path.Parent(l.sects, r)
	if !ok {
		return nil
	}
	place, _ := l.store.Place(r)
	return append(l.stand(around), r.Section, place)
}

// fault is Of, of a cell whose row is there, without where it stands.
func (l *look) fault(c api.Cell, v api.Value) (api.Fault, bool) {
	kind, err := One(l.item(c), v)
	if kind == 0 || kind == api.FtNeed && l.skips(c) {
		return api.Fault{}, false
	}
	return api.Fault{Kind: kind, Err: err, Cell: c}, true
}

// row is the faults of a row that is there, without where it stands.
func (l *look) row(r api.Row, lines map[api.Cell]api.Value) []api.Fault {
	if r.Section >= len(l.sects) {
		return nil
	}
	var faults []api.Fault
	for n, item := range l.sects[r.Section].Items {
		c := api.Cell{Row: r, Item: n}
		v := lines[c]
		if item.Kind == api.ItField {
			v, _ = l.store.Get(c)
		}
		if f, ok := l.fault(c, v); ok {
			faults = append(faults, f)
		}
	}
	return faults
}
