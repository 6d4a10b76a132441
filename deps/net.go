package deps

import (
	"slices"

	"excise/api"
	"excise/path"
	"excise/schema"
	"excise/store"
)

// A net is a return, and what its definition says of the cells that read one another.
type net struct {
	store  *store.Store
	schema *schema.Schema
	sects  []api.Sect
	spots  []spot        // of items, by numbers
	known  map[int]links // of items, by numbers: to what reads them, as far as that was asked for
}

// A spot is an item of a section.
type spot struct{ section, item int }

// Links are to items: some item's cells read the cells of these, or are read by them. Such cells stand in a row, in the rows around it, or within it.
type links struct {
	items  [][]int // of each section: the places of its items, rising
	within []bool  // of each section: whether there are some of it, or of one within it
}

// netOf is a return's net; one that no call made has no sections.
func netOf(x *store.Store) *net {
	n := &net{store: x, schema: x.Schema(), known: map[int]links{}}
	n.sects = n.schema.Sects()
	for section, sect := range n.sects {
		for item := range sect.Items {
			n.spots = append(n.spots, spot{section, item})
		}
	}
	return n
}

// number is the number of the item of a cell that is there.
func (n *net) number(c api.Cell) (int, bool) {
	if !n.store.Has(c.Row) {
		return 0, false
	}
	return n.schema.Number(c.Row.Section, c.Item)
}

// there is those of some cells that are there, each once.
func (n *net) there(l []api.Cell) []api.Cell {
	var cells []api.Cell
	take := once(func(c api.Cell) { cells = append(cells, c) })
	for _, c := range l {
		if _, ok := n.number(c); ok {
			take(c)
		}
	}
	return cells
}

// cellsOf are those cells of a row that have such an item, by items.
func (n *net) cellsOf(r api.Row, such func(api.Item) bool) []api.Cell {
	if !n.store.Has(r) || r.Section >= len(n.sects) {
		return nil
	}
	var cells []api.Cell
	for place, item := range n.sects[r.Section].Items {
		if such(item) {
			cells = append(cells, api.Cell{Row: r, Item: place})
		}
	}
	return cells
}

// readsOf are the numbers of the items that an item reads, rising.
func (n *net) readsOf(number int) []int {
	var reads []int
	for read := range n.spots {
		if slices.Contains(n.schema.Users(read), number) {
			reads = append(reads, read)
		}
	}
	return reads
}

// users hands on the cells that read a cell, in the order of rows.
func (n *net) users(c api.Cell, take func(api.Cell)) {
	number, ok := n.number(c)
	if !ok {
		return
	}
	l, ok := n.known[number]
	if !ok {
		l = n.linksTo(n.schema.Users(number))
		n.known[number] = l
	}
	n.follow(l, c.Row, take)
}

// linksTo are the links to items of some numbers, rising.
func (n *net) linksTo(numbers []int) links {
	l := links{items: make([][]int, len(n.sects)), within: make([]bool, len(n.sects))}
	for _, number := range numbers {
		to := n.spots[number]
		l.items[to.section] = append(l.items[to.section], to.item)
	}
	// From behind, since each section stands ahead of those within it.
	for section := len(n.sects) - 1; section > 0; section-- {
		if len(l.items[section]) > 0 {
			l.within[section] = true
		}
		if l.within[section] {
			l.within[n.sects[section].Parent] = true
		}
	}
	return l
}

// follow hands on the cells to which a row's links go, in the order of rows. An item that reads another one stands in its section, in one within that, or in the one next around: so whichever of both a link comes from, the other one's cells are all those in the rows around, in the row and within it.
func (n *net) follow(l links, r api.Row, take func(api.Cell)) {
	for _, outer := range n.around(r) {
		l.hand(outer, take)
	}
	n.descend(l, r, take)
}

// around are the rows around a row, from without.
func (n *net) around(r api.Row) []api.Row {
	outer, ok := path.Parent(n.sects, r)
	if !ok {
		return nil
	}
	return append(n.around(outer), outer)
}

// descend hands on the cells in a row and within it. It does not look for rows in which there are none.
func (n *net) descend(l links, r api.Row, take func(api.Cell)) {
	l.hand(r, take)
	for section, sect := range n.sects {
		if sect.Parent == r.Section && l.within[section] {
			for _, kid := range n.store.Rows(r, section) {
				n.descend(l, kid, take)
			}
		}
	}
}

// hand hands on the cells of one row.
func (l links) hand(r api.Row, take func(api.Cell)) {
	for _, item := range l.items[r.Section] {
		take(api.Cell{Row: r, Item: item})
	}
}
