package value

import (
	"excise/api"
	"excise/decimal"
)

// Op is what the operator op makes of a and b.
func Op(op int, a, b api.Value) api.Value {
	if e := fault(a, b); e != 0 {
		return Bad(e)
	}
	switch {
	case a.Kind != b.Kind: // no operator takes two of unlike kinds
		return Bad(api.EvType)
	case a.Kind == api.VNum:
		return ofNumbers(op, a.Num, b.Num)
	case op == api.OpEq:
		return flag(a == b)
	case op == api.OpNe:
		return flag(a != b)
	case a.Kind == api.VFlag:
		return ofFlags(op, a.Flag, b.Flag)
	}
	return Bad(api.EvType)
}

func ofNumbers(op int, a, b api.Dec) api.Value {
	// What was asked may be, and so may the scale and the policy: all that decimal can still say is that there is no room.
	switch op {
	case api.OpAdd:
		return number(decimal.Add(a, b))
	case api.OpSub:
		return number(decimal.Sub(a, b))
	case api.OpMul:
		return number(decimal.MulTo(a, b, min(a.Scale+b.Scale, api.MaxScale), api.HalfEven))
	}
	return ofOrder(op, decimal.Cmp(a, b))
}

// ofOrder is what op says of two numbers, the first of which is below (-1), as great as (0) or above (1) the second.
func ofOrder(op, order int) api.Value {
	switch op {
	case api.OpEq:
		return flag(order == 0)
	case api.OpNe:
		return flag(order != 0)
	case api.OpLt:
		return flag(order < 0)
	case api.OpLe:
		return flag(order <= 0)
	case api.OpGt:
		return flag(order > 0)
	case api.OpGe:
		return flag(order >= 0)
	}
	return Bad(api.EvType)
}

func ofFlags(op int, a, b bool) api.Value {
	switch op {
	case api.OpAnd:
		return flag(a && b)
	case api.OpOr:
		return flag(a || b)
	}
	return Bad(api.EvType)
}

// fault is the error that operands come to when they are asked, one behind the other, all but their kinds; 0, if there is none.
func fault(l ...api.Value) int {
	for _, v := range l {
		switch {
		case Check(v) != api.OK:
			return api.EvType
		case v.Kind == api.VErr:
			return v.Err
		case v.Kind == api.VBlank:
			return api.EvBlank
		}
	}
	return 0
}

// faultFor is the error that an operand comes to when it is asked for a kind; 0, if there is none.
func faultFor(kind int, v api.Value) int {
	if e := fault(v); e != 0 {
		return e
	}
	if v.Kind != kind {
		return api.EvType
	}
	return 0
}
