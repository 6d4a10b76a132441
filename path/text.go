package path

import (
	"slices"
	"strconv"
	"strings"

	"excise/api"
)

// Text is a row's address as a text.
func Text(l []api.Sect, r api.Row) string {
	if Check(l, r) != api.OK {
		return "?"
	}
	if r.Section == 0 {
		return "/"
	}
	return spell(l, r.Section, r.Ids)
}

// CellText is a cell's address as a text.
func CellText(l []api.Sect, c api.Cell) string {
	if CheckCell(l, c) != api.OK {
		return "?"
	}
	return Text(l, c.Row) + "." + l[c.Row.Section].Items[c.Item].Name
}

// Parse is the row that has a text.
func Parse(l []api.Sect, s string) (api.Row, bool) {
	for _, b := range begins(l, s) {
		if b.ok && b.rest == "" {
			return b.row, true
		}
	}
	return api.Row{}, false
}

// ParseCell is the cell that has a text.
func ParseCell(l []api.Sect, s string) (api.Cell, bool) {
	for n, b := range begins(l, s) {
		name, ok := strings.CutPrefix(b.rest, ".")
		if !b.ok || !ok {
			continue
		}
		item := slices.IndexFunc(l[n].Items, func(i api.Item) bool { return i.Name == name })
		if item >= 0 {
			return api.Cell{Row: b.row, Item: item}, true
		}
	}
	return api.Cell{}, false
}

// spell is a row's text, but nothing of the root's: its slash is that of what stands within it.
func spell(l []api.Sect, section int, ids [api.MaxDepth - 1]int64) string {
	if section == 0 {
		return ""
	}
	id := strconv.FormatInt(ids[own(l, section)], 10)
	return spell(l, l[section].Parent, ids) + "/" + l[section].Name + ":" + id
}

// begun is the row of one section with whose text a text begins.
type begun struct {
	row  api.Row
	rest string // what stands behind it
	ok   bool   // whether there is such a row
}

// begins are these rows, by sections. There is at most one of each: the names are known, and an id ends where there are no more digits. Each one goes on behind its parent's, so that a long name around many sections is read once; where there is no row around, nothing is left to go on with.
func begins(l []api.Sect, s string) []begun {
	if len(l) == 0 || !sound(l) {
		return nil
	}
	out := make([]begun, len(l))
	out[0].rest, out[0].ok = strings.CutPrefix(s, "/")
	for n := 1; n < len(l); n++ {
		around := out[l[n].Parent]
		if l[n].Parent == 0 {
			around.rest = s
		}
		if id, rest, ok := cutStep(around.rest, l[n].Name); ok {
			out[n] = begun{under(l, around.row, n, id), rest, true}
		}
	}
	return out
}

// cutStep takes a name and an id off a text.
func cutStep(s, name string) (int64, string, bool) {
	s, ok := strings.CutPrefix(s, "/"+name+":")
	if !ok {
		return 0, "", false
	}
	return cutId(s)
}

// cutId takes an id off a text. It has no 0 ahead, and so many sections do not read the same zeros again and again.
func cutId(s string) (int64, string, bool) {
	if s == "" || s[0] == '0' {
		return 0, "", false
	}
	n, id := 0, int64(0)
	for n < len(s) && s[n] >= '0' && s[n] <= '9' && id <= api.MaxId {
		id = 10*id + int64(s[n]-'0')
		n++
	}
	if !isId(id) {
		return 0, "", false
	}
	return id, s[n:], true
}
