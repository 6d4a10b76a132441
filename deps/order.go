package deps

import (
	"cmp"
	"slices"

	"excise/api"
)

// A ranked cell is one with all that it is sorted by.
type ranked struct {
	cell  api.Cell
	rank  int
	stand stand
}

// A stand is where a row stands among all: of each row from without, the root's left out, its section and its place there. What is not used is 0, so that a row stands ahead of those within it.
type stand [api.MaxDepth - 1]struct{ section, place int }

// sorted is cells that are there by rank, those of one rank in the order of rows.
func (n *net) sorted(l []api.Cell) []api.Cell {
	stands := map[api.Row]stand{}
	var list []ranked
	for _, c := range l {
		at, ok := stands[c.Row]
		if !ok {
			at = n.standOf(c.Row)
			stands[c.Row] = at
		}
		number, _ := n.number(c)
		list = append(list, ranked{c, n.schema.Rank(number), at})
	}
	slices.SortFunc(list, compare)
	var cells []api.Cell
	for _, at := range list {
		cells = append(cells, at.cell)
	}
	return cells
}

// standOf finds where a row stands by the places of the rows around it: to go through all rows would take longer, where a few cells are sorted.
func (n *net) standOf(r api.Row) stand {
	var found stand
	for depth, row := range append(n.around(r), r) {
		if depth > 0 {
			found[depth-1].section = row.Section
			found[depth-1].place, _ = n.store.Place(row)
		}
	}
	return found
}

func compare(a, b ranked) int {
	return cmp.Or(cmp.Compare(a.rank, b.rank), compareStands(a.stand, b.stand), cmp.Compare(a.cell.Item, b.cell.Item))
}

func compareStands(a, b stand) int {
	for n := range a {
		if order := cmp.Or(cmp.Compare(a[n].section, b[n].section), cmp.Compare(a[n].place, b[n].place)); order != 0 {
			return order
		}
	}
	return 0
}
