package decimal

import (
	"excise/api"
	"excise/limb"
)

// MulTo is the exact product, rounded to a scale by a policy.
func MulTo(a, b api.Dec, scale, policy int) (api.Dec, api.Errno) {
	if e := checkBoth(a, b); e != api.OK {
		return api.Dec{}, e
	}
	if e := checkRounding(scale, policy); e != api.OK {
		return api.Dec{}, e
	}
	neg, product := a.Neg != b.Neg, mulDouble(a.N, b.N)
	fewer := a.Scale + b.Scale - scale
	if fewer > 0 {
		return shorten(neg, product, fewer, scale, policy)
	}
	if product.high != (api.Nat{}) {
		return api.Dec{}, api.ErrOver
	}
	return fit(neg, mulDouble(product.low, ten(-fewer)), scale)
}

// Rescale is a's number, rounded to a scale by a policy.
func Rescale(a api.Dec, scale, policy int) (api.Dec, api.Errno) {
	return MulTo(a, api.Dec{N: limb.From(1)}, scale, policy)
}

func checkRounding(scale, policy int) api.Errno {
	if !isScale(scale) {
		return api.ErrScale
	}
	switch policy {
	case api.HalfUp, api.HalfEven, api.Down, api.Up, api.Floor:
		return api.OK
	}
	return api.ErrPolicy
}

// shorten takes the last digits, fewer of them, off n, and rounds what is left.
func shorten(neg bool, n double, fewer, scale, policy int) (api.Dec, api.Errno) {
	by := ten(fewer)
	size, rest, ok := limb.Div(n.high, n.low, by)
	if !ok {
		return api.Dec{}, api.ErrOver
	}
	if !isAway(neg, size, rest, by, policy) {
		return signed(neg, size, scale), api.OK
	}
	size, over := limb.Add(size, limb.From(1))
	if over {
		return api.Dec{}, api.ErrOver
	}
	return signed(neg, size, scale), api.OK
}

// isAway tells whether the policy takes the number farther from 0, size being the one nearer to it and rest by by what lies between.
func isAway(neg bool, size, rest, by api.Nat, policy int) bool {
	if rest == (api.Nat{}) {
		return false
	}
	switch policy {
	case api.HalfUp:
		return cmpHalf(rest, by) >= 0
	case api.HalfEven:
		half := cmpHalf(rest, by)
		return half > 0 || half == 0 && limb.Odd(size)
	case api.Up:
		return true
	case api.Floor:
		return neg
	}
	return false
}

// cmpHalf is how rest stands to the half of by, a power of ten so small that twice the rest has room.
func cmpHalf(rest, by api.Nat) int {
	twice, _ := limb.Add(rest, rest)
	return limb.Cmp(twice, by)
}
