package formula

import (
	"cmp"
	"slices"

	"excise/api"
)

// Names are the names that an expression reads, rising.
func Names(x api.Expr) []string {
	list := gather(x, func(node api.Expr) (string, bool) {
		return node.Name, node.Kind == api.ExName
	})
	slices.Sort(list)
	return list
}

// Cols are the columns that an expression reads, by Section, then by Name.
func Cols(x api.Expr) []api.ColKey {
	list := gather(x, func(node api.Expr) (api.ColKey, bool) {
		return column(node), node.Kind == api.ExAgg
	})
	slices.SortFunc(list, func(a, b api.ColKey) int {
		return cmp.Or(cmp.Compare(a.Section, b.Section), cmp.Compare(a.Name, b.Name))
	})
	return list
}

// Nodes is how many nodes an expression has.
func Nodes(x api.Expr) int {
	n := 1
	for _, arg := range x.Args {
		n += Nodes(arg)
	}
	return n
}

// column is the column that an aggregate reads; how many rows there are is no item's.
func column(x api.Expr) api.ColKey {
	if x.Op == api.AgRows {
		return api.ColKey{Section: x.Section}
	}
	return api.ColKey{Section: x.Section, Name: x.Name}
}

// gather is what pick finds in the nodes of an expression, each once, as it comes.
func gather[K comparable](x api.Expr, pick func(node api.Expr) (K, bool)) []K {
	var list []K
	times := map[K]int{}
	var look func(node api.Expr)
	look = func(node api.Expr) {
		if key, ok := pick(node); ok {
			if times[key] == 0 {
				list = append(list, key)
			}
			times[key]++
		}
		for _, arg := range node.Args {
			look(arg)
		}
	}
	look(x)
	return list
}
