package scope

import "excise/api"

// A checker goes through a definition, and keeps the names that it has met.
type checker struct {
	def    api.Def
	sects  []api.Sect
	tables map[string]int   // by name: its number
	items  []map[string]int // of each section, by name: its item's Kind
	kids   []map[string]int // of each section, by name: its kid's number
}

// Check is the first place of a definition at which something is wrong with names or sizes, and what.
func Check(d api.Def) (api.Place, api.Errno) {
	c := newChecker(d)
	for _, part := range []func() (api.Place, api.Errno){c.checkWhole, c.checkTables, c.checkSections, c.checkFormulas, c.checkPages} {
		if place, e := part(); e != api.OK {
			return place, e
		}
	}
	return api.Place{}, api.OK
}

func newChecker(d api.Def) *checker {
	c := &checker{def: d, sects: flat(d.Root), tables: map[string]int{}}
	for range c.sects {
		c.items = append(c.items, map[string]int{})
		c.kids = append(c.kids, map[string]int{})
	}
	return c
}

func (c *checker) checkWhole() (api.Place, api.Errno) {
	place := api.Place{Kind: api.PlDef}
	switch {
	case !mayName(c.def.Name):
		return place, api.ErrNamed
	case len(c.def.Tables) > api.MaxTables || len(c.def.Pages) > api.MaxPages || c.tooManySections():
		return place, api.ErrSize
	}
	return place, api.OK
}

// tooManySections tells whether there are too many sections, or one is too deep. What flat leaves out is behind too many, or below one that is too deep, so that it need not be seen.
func (c *checker) tooManySections() bool {
	for _, s := range c.sects {
		if s.Depth > api.MaxDepth {
			return true
		}
	}
	return len(c.sects) > api.MaxSections
}

func (c *checker) checkTables() (api.Place, api.Errno) {
	for n, t := range c.def.Tables {
		if e := c.checkTable(n, t); e != api.OK {
			return api.Place{Kind: api.PlTable, Table: n}, e
		}
	}
	return api.Place{}, api.OK
}

func (c *checker) checkTable(n int, t api.Table) api.Errno {
	switch {
	case !mayName(t.Name):
		return api.ErrNamed
	case has(c.tables, t.Name):
		return api.ErrTwice
	case len(t.Steps) < 1 || len(t.Steps) > api.MaxSteps:
		return api.ErrSize
	}
	c.tables[t.Name] = n
	return api.OK
}

func (c *checker) checkSections() (api.Place, api.Errno) {
	for n, s := range c.sects {
		if e := c.checkSection(n, s); e != api.OK {
			return api.Place{Kind: api.PlSection, Section: n}, e
		}
		for i, item := range s.Items {
			if e := c.checkItem(n, item); e != api.OK {
				return api.Place{Kind: api.PlItem, Section: n, Item: i}, e
			}
		}
	}
	return api.Place{}, api.OK
}

func (c *checker) checkSection(n int, s api.Sect) api.Errno {
	e := c.nameSection(n, s)
	if e == api.OK && (len(s.Items) > api.MaxItems || !hasRoom(n, s)) {
		return api.ErrSize
	}
	return e
}

// nameSection is what is wrong with a section's name; its parent has it, if nothing is.
func (c *checker) nameSection(n int, s api.Sect) api.Errno {
	if n == 0 {
		if s.Name != "" {
			return api.ErrNamed
		}
		return api.OK
	}
	switch {
	case !mayName(s.Name):
		return api.ErrNamed
	case has(c.kids[s.Parent], s.Name) || c.taken(s.Parent, s.Name):
		return api.ErrTwice
	}
	c.kids[s.Parent][s.Name] = n
	return api.OK
}

// hasRoom tells whether a section's Max may be: the root has always one row, and none can be put in.
func hasRoom(n int, s api.Sect) bool {
	if n == 0 {
		return s.Max == 0
	}
	return s.Max >= 1 && s.Max <= api.MaxRows
}

func (c *checker) checkItem(section int, item api.Item) api.Errno {
	switch {
	case !mayName(item.Name):
		return api.ErrNamed
	case c.taken(section, item.Name):
		return api.ErrTwice
	}
	c.items[section][item.Name] = item.Kind
	return api.OK
}

// taken tells whether a section, or one around it, or an item of these, has a name.
func (c *checker) taken(section int, name string) bool {
	for ; section >= 0; section = c.sects[section].Parent {
		if c.sects[section].Name == name || has(c.items[section], name) {
			return true
		}
	}
	return false
}

func has(names map[string]int, name string) bool {
	_, ok := names[name]
	return ok
}
