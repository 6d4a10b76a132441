package scope

import "excise/api"

// checkFormulas stands behind all names: what an expression reads may be named behind it.
func (c *checker) checkFormulas() (api.Place, api.Errno) {
	for n, s := range c.sects {
		for i, item := range s.Items {
			if item.Kind != api.ItField && c.lacks(n, item.Expr) {
				return api.Place{Kind: api.PlItem, Section: n, Item: i}, api.ErrUnknown
			}
		}
	}
	return api.Place{}, api.OK
}

// lacks tells whether an expression reads, in a section, what there is not.
func (c *checker) lacks(section int, x api.Expr) bool {
	if !c.knows(section, x) {
		return true
	}
	for _, arg := range x.Args {
		if c.lacks(section, arg) {
			return true
		}
	}
	return false
}

// knows tells whether there is what an expression's top node reads.
func (c *checker) knows(section int, x api.Expr) bool {
	switch x.Kind {
	case api.ExName:
		return c.finds(section, x.Name)
	case api.ExAgg:
		kid, ok := c.kids[section][x.Section]
		return ok && (x.Op == api.AgRows || canBeRead(c.items[kid][x.Name]))
	case api.ExBracket:
		return has(c.tables, x.Name)
	}
	return true
}

// finds is whether Find finds a name, by the names that were kept: these are one item's each.
func (c *checker) finds(section int, name string) bool {
	for ; section >= 0; section = c.sects[section].Parent {
		if canBeRead(c.items[section][name]) {
			return true
		}
	}
	return false
}

func (c *checker) checkPages() (api.Place, api.Errno) {
	pages, shown := map[string]int{}, map[string]int{}
	for n, p := range c.def.Pages {
		e := c.checkPage(p, pages)
		if e == api.OK {
			e = c.showItems(n, p.Items, shown)
		}
		if e != api.OK {
			return api.Place{Kind: api.PlPage, Page: n}, e
		}
		pages[p.Name] = n
	}
	return api.Place{}, api.OK
}

// checkPage is what is wrong with a page behind others, but for what stands on it.
func (c *checker) checkPage(p api.Page, others map[string]int) api.Errno {
	switch {
	case !mayName(p.Name):
		return api.ErrNamed
	case has(others, p.Name):
		return api.ErrTwice
	case len(p.Items) > api.MaxItems:
		return api.ErrSize
	case c.lacks(0, p.When):
		return api.ErrUnknown
	}
	return api.OK
}

// showItems puts what stands on a page to what is shown; with an error, as far as nothing is wrong.
func (c *checker) showItems(page int, names []string, shown map[string]int) api.Errno {
	for _, name := range names {
		switch {
		case c.items[0][name] != api.ItField && !has(c.kids[0], name):
			return api.ErrUnknown
		case has(shown, name):
			return api.ErrTwice
		}
		shown[name] = page
	}
	return api.OK
}
