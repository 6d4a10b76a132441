package schema

import (
	"slices"

	"excise/api"
	"excise/grammar"
	"excise/ranks"
	"excise/scope"
	"excise/types"
)

// New is the schema of a text; with an error, the byte of the text at which it is wrong.
func New(text string) (*Schema, int, api.Errno) {
	d, at, e := grammar.Parse(text)
	if e != api.OK {
		return nil, at, e
	}
	s, place, e := Of(d)
	if e != api.OK {
		return nil, nameAt(text, place), e
	}
	return s, 0, api.OK
}

// nameAt is the byte at which the name of a place of a definition stands in its text; 0 of the root section, which has no name there.
func nameAt(text string, place api.Place) int {
	spots, _ := grammar.Spots(text)
	for _, spot := range spots {
		if spot.Place == place {
			return spot.At
		}
	}
	return 0
}

// Of is the schema of a definition; with an error, the place of the definition at which it is wrong.
func Of(d api.Def) (*Schema, api.Place, api.Errno) {
	s := &Schema{}
	for _, ask := range []func() (api.Place, api.Errno){
		func() (api.Place, api.Errno) { return api.Place{}, s.print(d) },
		func() (api.Place, api.Errno) { return scope.Check(d) },
		func() (api.Place, api.Errno) { return types.Check(d) },
		func() (api.Place, api.Errno) { return s.rank(d) },
	} {
		if place, e := ask(); e != api.OK {
			return nil, place, e
		}
	}
	s.keep(d)
	return s, api.Place{}, api.OK
}

// print keeps the definition's text, if there is one.
func (s *Schema) print(d api.Def) api.Errno {
	text, e := grammar.Print(d)
	s.text = text
	return e
}

// rank keeps the sections and the order of their items, if there is one; else it tells the first item that can't be reckoned.
func (s *Schema) rank(d api.Def) (api.Place, api.Errno) {
	s.sects = scope.Flat(d)
	found, e := ranks.Ranks(s.sects)
	if e != api.OK {
		section, item, _ := ranks.Of(s.sects, ranks.Stuck(s.sects)[0])
		return api.Place{Kind: api.PlItem, Section: section, Item: item}, e
	}
	s.ranks = found
	s.order, _ = ranks.Order(s.sects)
	return api.Place{}, api.OK
}

// keep keeps the definition, and what follows from it, since nobody said no.
func (s *Schema) keep(d api.Def) {
	s.def = grammar.Clone(d)
	s.keepUsers()
	for section := range s.sects {
		s.columns = append(s.columns, s.columnsOf(section))
	}
	s.tables = make(map[string]int, len(d.Tables))
	for n, table := range d.Tables {
		s.tables[table.Name] = n
	}
}

// keepUsers keeps what ranks.Users tells of each item. It goes through the items once: ranks.Users does so for each number.
func (s *Schema) keepUsers() {
	s.users = make([][]int, len(s.ranks))
	user := 0
	for section := range s.sects {
		for _, item := range s.sects[section].Items {
			for _, read := range types.Reads(item.Expr) {
				if n, ok := s.meant(section, read); ok {
					s.users[n] = append(s.users[n], user)
				}
			}
			user++
		}
	}
}

// meant is the number of the item that is read in a section; there is none, if just rows are counted.
func (s *Schema) meant(section int, read api.Read) (int, bool) {
	if read.Section != "" {
		section, _ = scope.Kid(s.sects, section, read.Section)
	}
	section, item, ok := scope.Find(s.sects, section, read.Name)
	if !ok {
		return 0, false
	}
	return ranks.Number(s.sects, section, item)
}

// columnsOf goes by users: from its section's parent an item is read by aggregates alone, since a name means an item of the section in which it stands, or of one around that.
func (s *Schema) columnsOf(section int) []int {
	inParent := func(user int) bool {
		from, _, _ := ranks.Of(s.sects, user)
		return from == s.sects[section].Parent
	}
	var columns []int
	for place := range s.sects[section].Items {
		n, _ := ranks.Number(s.sects, section, place)
		if slices.ContainsFunc(s.users[n], inParent) {
			columns = append(columns, place)
		}
	}
	return columns
}
