package types

import (
	"excise/api"
	"excise/scope"
)

// No expression is of this kind.
const noKind = api.VBlank

// A reader knows what the names of a definition mean in one of its sections.
type reader struct {
	def     api.Def
	sects   []api.Sect
	section int
}

// Kind is an expression's kind, in a section of a definition.
func Kind(d api.Def, section int, x api.Expr) (int, api.Errno) {
	sects := scope.Flat(d)
	if section < 0 || section >= len(sects) {
		return 0, api.ErrNone
	}
	return reader{d, sects, section}.kind(x)
}

func (r reader) kind(x api.Expr) (int, api.Errno) {
	if Nodes(x) > api.MaxNodes {
		return 0, api.ErrNodes
	}
	return r.wholeKind(x)
}

// wholeKind asks Args ahead of the node that has them, so that the first error is theirs.
func (r reader) wholeKind(x api.Expr) (int, api.Errno) {
	var args []int
	for _, arg := range x.Args {
		kind, e := r.wholeKind(arg)
		if e != api.OK {
			return 0, e
		}
		args = append(args, kind)
	}
	return r.nodeKind(x, args)
}

// nodeKind is a node's kind over Args of some kinds. What is wrong with the node itself is told ahead of Args that do not suit.
func (r reader) nodeKind(x api.Expr, args []int) (int, api.Errno) {
	switch x.Kind {
	case api.ExConst:
		return leaf(x.Value.Kind, Const(x.Value), args)
	case api.ExName:
		kind, e := r.nameKind(x.Name)
		return leaf(kind, e, args)
	case api.ExAgg:
		kind, e := r.columnKind(x)
		return leaf(kind, e, args)
	case api.ExRound:
		if e := roundError(x); e != api.OK {
			return 0, e
		}
	case api.ExBracket:
		if _, ok := scope.Table(r.def, x.Name); !ok {
			return 0, api.ErrUnknown
		}
	}
	return suiting(kindOver(x, args))
}

// leaf is what comes of a node that may have no Args.
func leaf(kind int, e api.Errno, args []int) (int, api.Errno) {
	if e != api.OK {
		return 0, e
	}
	if len(args) > 0 {
		return 0, api.ErrKind
	}
	return kind, api.OK
}

func suiting(kind int) (int, api.Errno) {
	if kind == noKind {
		return 0, api.ErrKind
	}
	return kind, api.OK
}

func (r reader) nameKind(name string) (int, api.Errno) {
	section, item, ok := scope.Find(r.sects, r.section, name)
	if !ok {
		return 0, api.ErrUnknown
	}
	t := r.sects[section].Items[item].Type
	return t.Kind, Type(t)
}

func (r reader) columnKind(x api.Expr) (int, api.Errno) {
	kid, ok := scope.Kid(r.sects, r.section, x.Section)
	if !ok {
		return 0, api.ErrUnknown
	}
	if x.Op == api.AgRows {
		if x.Name != "" {
			return 0, api.ErrKind
		}
		return api.VNum, api.OK
	}
	// Find goes on in the sections around the kid, whose items are not in its rows.
	section, item, ok := scope.Find(r.sects, kid, x.Name)
	if !ok || section != kid {
		return 0, api.ErrUnknown
	}
	return suiting(columnOver(x.Op, r.sects[kid].Items[item].Type.Kind))
}

// columnOver is the kind of an aggregate over items of a kind, noKind if there is none.
func columnOver(op, kind int) int {
	switch op {
	case api.AgSum, api.AgMin, api.AgMax:
		if kind == api.VNum {
			return api.VNum
		}
	case api.AgCount:
		return api.VNum
	}
	return noKind
}

func roundError(x api.Expr) api.Errno {
	switch {
	case !isScale(x.Scale):
		return api.ErrScale
	case !isPolicy(x.Policy):
		return api.ErrPolicy
	}
	return api.OK
}

// kindOver is the kind of a node over Args of some kinds, noKind if they do not suit it.
func kindOver(x api.Expr, args []int) int {
	switch {
	case len(args) == 1:
		return kindOfOne(x.Kind, args[0])
	case len(args) == 2 && x.Kind == api.ExOp:
		return kindOfTwo(x.Op, args[0], args[1])
	case len(args) == 3 && x.Kind == api.ExIf:
		if args[0] == api.VFlag && args[1] == args[2] {
			return args[1]
		}
	}
	return noKind
}

// kindOfOne is what a node of one Arg comes to.
func kindOfOne(node, arg int) int {
	switch node {
	case api.ExNeg, api.ExRound, api.ExBracket:
		if arg == api.VNum {
			return api.VNum
		}
	case api.ExNot:
		if arg == api.VFlag {
			return api.VFlag
		}
	case api.ExBlank:
		return api.VFlag
	}
	return noKind
}

// kindOfTwo is what an operator comes to.
func kindOfTwo(op, a, b int) int {
	if a != b {
		return noKind
	}
	switch op {
	case api.OpAdd, api.OpSub, api.OpMul:
		if a == api.VNum {
			return api.VNum
		}
	case api.OpEq, api.OpNe:
		return api.VFlag
	case api.OpLt, api.OpLe, api.OpGt, api.OpGe:
		if a == api.VNum {
			return api.VFlag
		}
	case api.OpAnd, api.OpOr:
		if a == api.VFlag {
			return api.VFlag
		}
	}
	return noKind
}
