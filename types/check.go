package types

import (
	"excise/api"
	"excise/decimal"
	"excise/scope"
)

// Check is the first place of a definition at which a number, a type or a kind does not suit, and what is wrong there.
func Check(d api.Def) (api.Place, api.Errno) {
	for n, t := range d.Tables {
		if e := checkTable(t); e != api.OK {
			return api.Place{Kind: api.PlTable, Table: n}, e
		}
	}
	sects := scope.Flat(d)
	for n, s := range sects {
		for i, item := range s.Items {
			if e := (reader{d, sects, n}).checkItem(item); e != api.OK {
				return api.Place{Kind: api.PlItem, Section: n, Item: i}, e
			}
		}
	}
	for n, p := range d.Pages {
		if e := (reader{d, sects, 0}).checkWhen(p.When); e != api.OK {
			return api.Place{Kind: api.PlPage, Page: n}, e
		}
	}
	return api.Place{}, api.OK
}

// checkTable asks all numbers ahead of their order: what may not be can't be held against others.
func checkTable(t api.Table) api.Errno {
	for _, s := range t.Steps {
		for _, number := range [...]api.Dec{s.From, s.Base, s.Rate} {
			if e := decimal.Check(number); e != api.OK {
				return e
			}
		}
	}
	for n := 1; n < len(t.Steps); n++ {
		if decimal.Cmp(t.Steps[n].From, t.Steps[n-1].From) <= 0 {
			return api.ErrKind
		}
	}
	return api.OK
}

func (r reader) checkItem(item api.Item) api.Errno {
	switch item.Kind {
	case api.ItField:
		return Type(item.Type)
	case api.ItLine:
		return r.checkLine(item)
	case api.ItCheck:
		return r.wants(api.VFlag, item.Expr)
	}
	return api.ErrKind
}

func (r reader) checkLine(item api.Item) api.Errno {
	if e := Type(item.Type); e != api.OK {
		return e
	}
	if item.Type.Kind == api.VNum && !isPolicy(item.Policy) {
		return api.ErrPolicy
	}
	return r.wants(item.Type.Kind, item.Expr)
}

func (r reader) checkWhen(x api.Expr) api.Errno {
	if x.Kind == 0 {
		return api.OK
	}
	return r.wants(api.VFlag, x)
}

// wants is what is wrong with an expression that must be of a kind.
func (r reader) wants(want int, x api.Expr) api.Errno {
	kind, e := r.kind(x)
	if e == api.OK && kind != want {
		return api.ErrKind
	}
	return e
}
