package decimal

import (
	"excise/api"
	"excise/limb"
)

// double is a natural number of twice as many bits as a Nat: what stands between may need more room than what comes out.
type double struct {
	high, low api.Nat
}

func mulDouble(a, b api.Nat) double {
	high, low := limb.Mul(a, b)
	return double{high, low}
}

// lift is how many of the last digit of a scale, which is not below a's own, a has without its sign.
func lift(a api.Dec, scale int) double {
	return mulDouble(a.N, ten(scale-a.Scale))
}

// addDouble has room for what lift answers: that is below 2^316.
func addDouble(a, b double) double {
	low, carry := limb.Add(a.low, b.low)
	high, _ := limb.Add(a.high, b.high)
	if carry {
		high, _ = limb.Add(high, limb.From(1))
	}
	return double{high, low}
}

// subDouble is a less b, which is not above a.
func subDouble(a, b double) double {
	low, borrow := limb.Sub(a.low, b.low)
	high, _ := limb.Sub(a.high, b.high)
	if borrow {
		high, _ = limb.Sub(high, limb.From(1))
	}
	return double{high, low}
}

func cmpDouble(a, b double) int {
	if a == b {
		return 0
	}
	if order := limb.Cmp(a.high, b.high); order != 0 {
		return order
	}
	return limb.Cmp(a.low, b.low)
}

// fit is the number n at a scale, if it has room.
func fit(neg bool, n double, scale int) (api.Dec, api.Errno) {
	if n.high != (api.Nat{}) {
		return api.Dec{}, api.ErrOver
	}
	return signed(neg, n.low, scale), api.OK
}
