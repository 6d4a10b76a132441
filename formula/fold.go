package formula

import "excise/api"

// Fold is an expression in which all that reads nothing is reckoned ahead, and ifs whose choice is known are gone.
func Fold(x api.Expr, tables ...api.Table) api.Expr {
	r := reader{env: api.Env{Tables: tables}}
	return r.fold(x)
}

func (r *reader) fold(x api.Expr) api.Expr {
	x.Args = r.foldAll(x.Args)
	switch {
	case isChoice(x):
		if x.Args[0].Value.Flag {
			return x.Args[1]
		}
		return x.Args[2]
	case isFixed(x):
		return api.Expr{Kind: api.ExConst, Value: r.eval(x)}
	}
	return x
}

// foldAll makes a list of its own, also of an empty one: that might have room that its owner writes to.
func (r *reader) foldAll(args []api.Expr) []api.Expr {
	var list []api.Expr
	for _, arg := range args {
		list = append(list, r.fold(arg))
	}
	return list
}

// isChoice tells whether a node whose Args are folded is an if that takes the same Arg in each env. A constant that was folded has a value that may be.
func isChoice(x api.Expr) bool {
	return x.Kind == api.ExIf && isWhole(x) && isConst(x.Args[0]) && x.Args[0].Value.Kind == api.VFlag
}

// isFixed tells whether a node whose Args are folded comes to the same in each env that has these tables.
func isFixed(x api.Expr) bool {
	if !isWhole(x) || x.Kind == api.ExName || x.Kind == api.ExAgg {
		return false
	}
	for _, arg := range x.Args {
		if !isConst(arg) {
			return false
		}
	}
	return true
}

func isConst(x api.Expr) bool { return x.Kind == api.ExConst && len(x.Args) == 0 }
