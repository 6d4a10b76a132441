package scope

import "excise/api"

// Definitions that are not accepted have numbers, too, as far as that.
const (
	mostSections = 4 * api.MaxSections
	mostDeep     = 4 * api.MaxDepth
)

// flat is Flat, with items that are still the definition's.
func flat(root api.Section) []api.Sect {
	var l []api.Sect
	var gather func(s api.Section, parent, depth int)
	gather = func(s api.Section, parent, depth int) {
		if len(l) == mostSections || depth > mostDeep {
			return
		}
		number := len(l)
		l = append(l, api.Sect{Parent: parent, Depth: depth, Name: s.Name, Max: s.Max, Items: s.Items})
		for _, kid := range s.Kids {
			gather(kid, number, depth+1)
		}
	}
	gather(root, -1, 1)
	return l
}

func copyItems(l []api.Item) []api.Item {
	var made []api.Item
	for _, item := range l {
		item.Expr.Args = copyArgs(item.Expr.Args)
		made = append(made, item)
	}
	return made
}

func copyArgs(l []api.Expr) []api.Expr {
	var made []api.Expr
	for _, x := range l {
		x.Args = copyArgs(x.Args)
		made = append(made, x)
	}
	return made
}
