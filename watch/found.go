package watch

import (
	"excise/api"
	"excise/path"
	"excise/store"
)

// found are the faults that names leave, in no order, without places.
func (w *Watch) found(names []string) []api.Fault {
	left := setOf(names)
	var faults []api.Fault
	for _, f := range w.faults {
		if !w.skips(f, left) {
			faults = append(faults, f)
		}
	}
	return faults
}

func setOf(names []string) map[string]struct{} {
	set := make(map[string]struct{}, len(names))
	for _, name := range names {
		set[name] = struct{}{}
	}
	return set
}

// skips tells whether names leave a fault out. It is rules.Skipped of cells that are there; that would go through all names for each of them.
func (w *Watch) skips(f api.Fault, names map[string]struct{}) bool {
	if f.Kind != api.FtNeed {
		return false
	}
	_, ok := names[w.name(f.Cell)]
	return ok
}

// name is that by which what is needed is left out: the root's fields have their own, all else has that of the root's section in which it lies.
func (w *Watch) name(c api.Cell) string {
	section := c.Row.Section
	if section == 0 {
		return w.sects[0].Items[c.Item].Name
	}
	for w.sects[section].Parent > 0 {
		section = w.sects[section].Parent
	}
	return w.sects[section].Name
}

// stand is where a row that is there stands, as rules.At says; that would go through the whole definition for each row.
func (w *Watch) stand(x *store.Store, r api.Row) []int {
	around, ok := path.Parent(w.sects, r)
	if !ok {
		return nil
	}
	place, _ := x.Place(r)
	return append(w.stand(x, around), r.Section, place)
}
