package scope

import "excise/api"

// Definitions that are not accepted have numbers, too, as far as that.
const (
	mostSections = 4 * api.MaxSections
	mostDeep     = 4 * api.MaxDepth
)

// flat is Flat, with items that are still the definition's.
func flat(root api.Section) []api.Sect {
	var l []api.Sect
	var gather func(s api.Section, parent, depth int)
	gather = func(s api.Section, parent, depth int) {
		if len(l) == mostSections || depth > mostDeep {
			return
		}
		number := len(l)
		l = append(l, api.Sect{Parent: parent, Depth: depth, Name: s.Name, Max: s.Max, Items: s.Items})
		for _, kid := range s.Kids {
			gather(kid, number, depth+1)
		}
	}
	gather(root, -1, 1)
	return l
}

// copyItems copies items whole; empty lists become nil, so that they are told like lists that are not there.
func copyItems(l []api.Item) []api.Item {
	made := append([]api.Item(nil), l...)
	for n := range made {
		made[n].Expr.Args = copyArgs(made[n].Expr.Args)
	}
	return made
}

func copyArgs(l []api.Expr) []api.Expr {
	made := append([]api.Expr(nil), l...)
	for n := range made {
		made[n].Args = copyArgs(made[n].Args)
	}
	return made
}
