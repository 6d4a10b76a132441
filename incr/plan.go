package incr

import (
	"slices"

	"excise/api"
	"excise/formula"
	"excise/schema"
)

// A plan is what a definition says of how its cells are reckoned. Nobody writes to it once it is made, so that clones share it.
type plan struct {
	sects   []api.Sect
	tables  []api.Table
	items   [][]item // of sections, by numbers
	columns [][]int  // of sections, by numbers: the places of those items whose columns stand in trees
	scales  [][]int  // of sections, by numbers: these items' scales
	order   []spot   // all items, each behind what it reads
}

// A spot is an item of a section.
type spot struct{ section, item int }

// An item knows what it reads, and what reads it.
type item struct {
	api.Item
	rank   int
	column int      // which one of its section's columns it is, or none
	names  []spot   // what it reads in its own row, and in those around it
	cols   []column // what it reads over the rows of kid sections
	users  []spot   // what reads it
}

// A column is one of a kid section's, or its rows alone.
type column struct {
	key     api.ColKey
	section int
	column  int // which one of the section's columns it is, or none
	scale   int
}

// none stands for the number of a column that is not there.
const none = -1

func planOf(s *schema.Schema) *plan {
	p := &plan{sects: s.Sects(), tables: s.Def().Tables}
	var spots []spot
	for section, sect := range p.sects {
		p.columns = append(p.columns, s.Columns(section))
		p.scales = append(p.scales, scalesOf(sect, p.columns[section]))
		p.items = append(p.items, nil)
		for place, from := range sect.Items {
			made := item{Item: from, rank: s.Rank(len(spots)), column: slices.Index(p.columns[section], place)}
			made.cols = p.counted(section, from.Expr)
			p.items[section] = append(p.items[section], made)
			spots = append(spots, spot{section, place})
		}
	}
	for n, read := range spots {
		for _, user := range s.Users(n) {
			p.link(read, spots[user])
		}
	}
	for _, n := range s.Order() {
		p.order = append(p.order, spots[n])
	}
	return p
}

func scalesOf(sect api.Sect, places []int) []int {
	var scales []int
	for _, place := range places {
		scales = append(scales, sect.Items[place].Type.Scale)
	}
	return scales
}

// counted are the kid sections whose rows an expression counts. No links say so: the rows are no item.
func (p *plan) counted(section int, x api.Expr) []column {
	var cols []column
	for _, key := range formula.Cols(x) {
		if key.Name == "" {
			kid := slices.IndexFunc(p.sects, func(s api.Sect) bool { return s.Parent == section && s.Name == key.Section })
			cols = append(cols, column{key: key, section: kid, column: none})
		}
	}
	return cols
}

// link keeps at both of two items that one of them reads the other one. What stands in a kid section is read over all its rows; all else stands in the reader's own row, or in one around it.
func (p *plan) link(read, user spot) {
	from, to := p.item(read), p.item(user)
	from.users = append(from.users, user)
	sect := p.sects[read.section]
	if sect.Parent == user.section {
		key := api.ColKey{Section: sect.Name, Name: from.Name}
		to.cols = append(to.cols, column{key, read.section, from.column, from.Type.Scale})
		return
	}
	to.names = append(to.names, read)
}

// item is the item of a spot that is there.
func (p *plan) item(at spot) *item { return &p.items[at.section][at.item] }

// kids are the sections next within a section, in order.
func (p *plan) kids(section int) []int {
	var kids []int
	for n, sect := range p.sects {
		if sect.Parent == section {
			kids = append(kids, n)
		}
	}
	return kids
}

// hasColumn tells whether a section is a kid of another one, and has such an item that is a column.
func (p *plan) hasColumn(parent, section, item int) bool {
	if section < 0 || section >= len(p.sects) || p.sects[section].Parent != parent {
		return false
	}
	return item >= 0 && item < len(p.items[section]) && p.items[section][item].Kind != api.ItCheck
}
