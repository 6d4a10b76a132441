package grammar

import (
	"excise/api"
	"excise/dectext"
)

// isDef tells whether some text says d, however long that were.
func isDef(d api.Def) bool {
	root := d.Root
	if !isName(d.Name) || root.Name != "" || root.Max != 0 || !hasParts(root) {
		return false
	}
	return all(d.Tables, isTable) && all(d.Pages, isPage)
}

// all tells whether each one of a list is such.
func all[T any](l []T, such func(T) bool) bool {
	for _, one := range l {
		if !such(one) {
			return false
		}
	}
	return true
}

func isSection(s api.Section) bool { return isName(s.Name) && isInt(s.Max) && hasParts(s) }

func hasParts(s api.Section) bool { return all(s.Items, isItem) && all(s.Kids, isSection) }

// isItem tells whether i has just what its kind has.
func isItem(i api.Item) bool {
	if !isName(i.Name) {
		return false
	}
	switch i.Kind {
	case api.ItField:
		return isType(i.Type) && i.Policy == 0 && isNothing(i.Expr)
	case api.ItLine:
		return isType(i.Type) && !i.Need && isRounded(i) && isExpr(i.Expr)
	case api.ItCheck:
		return i.Type == api.Type{} && !i.Need && i.Policy == 0 && isExpr(i.Expr)
	}
	return false
}

func isType(t api.Type) bool {
	switch t.Kind {
	case api.VNum:
		return isInt(t.Scale)
	case api.VFlag, api.VText:
		return t.Scale == 0
	}
	return false
}

// isRounded tells whether a line of amounts has a policy, and another one none.
func isRounded(i api.Item) bool {
	if i.Type.Kind == api.VNum {
		return isPolicy(i.Policy)
	}
	return i.Policy == 0
}

func isPolicy(p int) bool { return p >= api.HalfUp && p <= api.Floor }

func isInt(n int) bool { return n >= 0 && n <= maxInt }

func isTable(t api.Table) bool {
	return isName(t.Name) && len(t.Steps) > 0 && all(t.Steps, isStep)
}

func isStep(s api.Step) bool { return isDec(s.From) && isDec(s.Base) && isDec(s.Rate) }

func isDec(d api.Dec) bool { return dectext.Text(d) != "?" }

func isPage(p api.Page) bool {
	return isName(p.Name) && (isNothing(p.When) || isExpr(p.When)) && all(p.Items, isName)
}

// isNothing tells whether x is what stands where there is no expression.
func isNothing(x api.Expr) bool { return SameExpr(x, api.Expr{}) }

func isExpr(x api.Expr) bool { return isNode(x) && all(x.Args, isExpr) }

// isNode tells whether x, whatever its Args are, has just what its kind has, and as many of them.
func isNode(x api.Expr) bool {
	has, args, ok := api.Expr{Kind: x.Kind}, 0, true
	switch x.Kind {
	case api.ExConst:
		has.Value, ok = x.Value, isConst(x.Value)
	case api.ExName:
		has.Name, ok = x.Name, isName(x.Name)
	case api.ExNeg, api.ExNot, api.ExBlank:
		args = 1
	case api.ExOp:
		has.Op, args, ok = x.Op, 2, x.Op >= api.OpAdd && x.Op <= api.OpOr
	case api.ExIf:
		args = 3
	case api.ExRound:
		has.Scale, has.Policy, args = x.Scale, x.Policy, 1
		ok = isInt(x.Scale) && isPolicy(x.Policy)
	case api.ExBracket:
		has.Name, args, ok = x.Name, 1, isName(x.Name)
	case api.ExAgg:
		has.Op, has.Section, has.Name, ok = x.Op, x.Section, x.Name, isColumn(x)
	default:
		return false
	}
	return ok && len(x.Args) == args && sameNode(x, has)
}

// isColumn tells whether x asks something of rows: rows themselves have no name besides the section's.
func isColumn(x api.Expr) bool {
	if x.Op == api.AgRows {
		return isName(x.Section) && x.Name == ""
	}
	return x.Op >= api.AgSum && x.Op <= api.AgMax && isName(x.Section) && isName(x.Name)
}

// isConst tells whether a value may stand in a text: a number's sign is an expression of its own.
func isConst(v api.Value) bool {
	switch v.Kind {
	case api.VNum:
		return v == api.Value{Kind: api.VNum, Num: v.Num} && !v.Num.Neg && isDec(v.Num)
	case api.VFlag:
		return v == api.Value{Kind: api.VFlag, Flag: v.Flag}
	case api.VText:
		return v == api.Value{Kind: api.VText, Text: v.Text} && len(v.Text) <= api.MaxText
	}
	return false
}
