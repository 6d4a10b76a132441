package grammar

import "excise/api"

// def takes a definition.
func (r *reader) def() api.Def {
	var d api.Def
	r.take("return")
	d.Name = r.named(api.Place{Kind: api.PlDef})
	root := r.newSection(1)
	r.take("{")
	for !r.skip("}") {
		switch {
		case r.skip("table"):
			d.Tables = append(d.Tables, r.table(len(d.Tables)))
		case r.skip("page"):
			d.Pages = append(d.Pages, r.page(len(d.Pages)))
		default:
			r.part(&d.Root, root)
		}
	}
	return d
}

// names takes a definition, and is where its names stand.
func (r *reader) names() []api.Spot {
	r.def()
	numbers := flatNumbers(r.depths)
	for i := range r.spots {
		// Of what is in no section that is 0, the root, which stays 0.
		place := &r.spots[i].Place
		place.Section = numbers[place.Section]
	}
	return r.spots
}

// flatNumbers are the numbers of sections whose depths are told in their order in the text. Those that are too deep for Flat have none there: they are behind all others, so that these have theirs.
func flatNumbers(depths []int) []int {
	numbers := make([]int, len(depths))
	next := 0
	for i, depth := range depths {
		if depth <= 4*api.MaxDepth {
			numbers[i] = next
			next++
		}
	}
	for i, depth := range depths {
		if depth > 4*api.MaxDepth {
			numbers[i] = next
			next++
		}
	}
	return numbers
}

// newSection is how many sections were begun ahead of one that begins now.
func (r *reader) newSection(depth int) int {
	r.depths = append(r.depths, depth)
	return len(r.depths) - 1
}

// section takes what is behind the word section.
func (r *reader) section(depth int) api.Section {
	var s api.Section
	number := r.newSection(depth)
	s.Name = r.named(api.Place{Kind: api.PlSection, Section: number})
	r.take("max")
	s.Max = r.whole()
	r.take("{")
	for !r.skip("}") {
		r.part(&s, number)
	}
	return s
}

// part takes an item or a section of s, which is the section of that number.
func (r *reader) part(s *api.Section, number int) {
	item := api.Place{Kind: api.PlItem, Section: number, Item: len(s.Items)}
	switch {
	case r.skip("field"):
		s.Items = append(s.Items, r.field(item))
	case r.skip("line"):
		s.Items = append(s.Items, r.line(item))
	case r.skip("check"):
		s.Items = append(s.Items, r.check(item))
	case r.skip("section"):
		s.Kids = append(s.Kids, r.section(r.depths[number]+1))
	default:
		r.giveUp()
	}
}

// field takes what is behind the word field.
func (r *reader) field(p api.Place) api.Item {
	i := api.Item{Kind: api.ItField, Name: r.named(p)}
	r.take(":")
	i.Type = r.kind()
	i.Need = r.skip("needed")
	r.take(";")
	return i
}

// line takes what is behind the word line.
func (r *reader) line(p api.Place) api.Item {
	i := api.Item{Kind: api.ItLine, Name: r.named(p)}
	r.take(":")
	i.Type = r.kind()
	if i.Type.Kind == api.VNum {
		i.Policy = r.policy()
	}
	i.Expr = r.formula()
	return i
}

// check takes what is behind the word check.
func (r *reader) check(p api.Place) api.Item {
	return api.Item{Kind: api.ItCheck, Name: r.named(p), Expr: r.formula()}
}

// formula takes what a line or a check comes to, up to the item's end.
func (r *reader) formula() api.Expr {
	r.take("=")
	x := r.expr()
	r.take(";")
	return x
}

// kind takes a type.
func (r *reader) kind() api.Type {
	switch {
	case r.skip("amount"):
		return api.Type{Kind: api.VNum, Scale: r.whole()}
	case r.skip("flag"):
		return api.Type{Kind: api.VFlag}
	}
	r.take("text")
	return api.Type{Kind: api.VText}
}

// table takes what is behind the word table.
func (r *reader) table(number int) api.Table {
	t := api.Table{Name: r.named(api.Place{Kind: api.PlTable, Table: number})}
	r.take("{")
	t.Steps = append(t.Steps, r.step())
	for !r.skip("}") {
		t.Steps = append(t.Steps, r.step())
	}
	return t
}

// step takes a step of a table.
func (r *reader) step() api.Step {
	var s api.Step
	r.take("from")
	s.From = r.dec()
	r.take("base")
	s.Base = r.dec()
	r.take("rate")
	s.Rate = r.dec()
	r.take(";")
	return s
}

// page takes what is behind the word page.
func (r *reader) page(number int) api.Page {
	p := api.Page{Name: r.named(api.Place{Kind: api.PlPage, Page: number})}
	if r.skip("when") {
		p.When = r.expr()
	}
	r.take("{")
	if r.skip("}") {
		return p
	}
	p.Items = append(p.Items, r.name())
	for r.skip(",") {
		p.Items = append(p.Items, r.name())
	}
	r.take("}")
	return p
}
