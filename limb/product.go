package limb

import (
	"math"
	"math/bits"

	"excise/api"
)

// Mul is the product: its part from 2^256 on, and the part below.
func Mul(a, b api.Nat) (api.Nat, api.Nat) {
	var product [2 * limbs]uint64
	for i, by := range b {
		row, top := mulLimb(a, by)
		var carry uint64
		for j, limb := range row {
			product[i+j], carry = bits.Add64(product[i+j], limb, carry)
		}
		// No row above has come this far yet, and the rows together can't carry past it.
		product[i+limbs] = top + carry
	}
	high := api.Nat{product[4], product[5], product[6], product[7]}
	low := api.Nat{product[0], product[1], product[2], product[3]}
	return high, low
}

// Div is the quotient and the rest of high times 2^256 and low; false, if by is 0 or the quotient is too great.
func Div(high, low, by api.Nat) (api.Nat, api.Nat, bool) {
	// The quotient is below 2^256 just if high is below by; nothing is below a divisor that is 0.
	if Cmp(high, by) >= 0 {
		return api.Nat{}, api.Nat{}, false
	}
	// Both sides are shifted till the divisor's top bit is set: then its top limb alone guesses each limb of the quotient well.
	shift := natBits - Bits(by)
	by = shiftLeft(by, shift)
	rest, _ := Add(shiftLeft(high, shift), shiftRight(low, natBits-shift))
	low = shiftLeft(low, shift)
	var quotient api.Nat
	for i := limbs - 1; i >= 0; i-- {
		quotient[i], rest = divStep(rest, low[i], by)
	}
	return quotient, shiftRight(rest, shift), true
}

// Ten is ten to the n; false, if n is below 0 or the power is too great.
func Ten(n int) (api.Nat, bool) {
	if n < 0 || n > mostTen {
		return api.Nat{}, false
	}
	power := From(1)
	for range n {
		power, _ = mulLimb(power, 10)
	}
	return power, true
}

// mulLimb is a times by: the part below 2^256, and the limb above it.
func mulLimb(a api.Nat, by uint64) (low api.Nat, top uint64) {
	for i, limb := range a {
		over, under := bits.Mul64(limb, by)
		var carry uint64
		low[i], carry = bits.Add64(under, top, 0)
		top = over + carry
	}
	return low, top
}

// divLimb is the quotient and the rest of a by a limb that is not 0.
func divLimb(a api.Nat, by uint64) (quotient api.Nat, rest uint64) {
	for i := limbs - 1; i >= 0; i-- {
		quotient[i], rest = bits.Div64(rest, a[i], by)
	}
	return quotient, rest
}

// divStep divides rest times 2^64 and next by by, whose top bit is set and which is above rest.
func divStep(rest api.Nat, next uint64, by api.Nat) (uint64, api.Nat) {
	guess := guessLimb(rest, by)
	taken, takenTop := mulLimb(by, guess)
	left, borrow := subBorrow(api.Nat{next, rest[0], rest[1], rest[2]}, taken)
	top := rest[3] - takenTop - borrow
	// What is left is below by, so that a top limb other than 0 says that it is below 0: the guess was too great, by 2 at most.
	for top != 0 {
		var carry uint64
		left, carry = addCarry(left, by)
		top += carry
		guess--
	}
	return guess, left
}

// guessLimb is the next limb of the quotient as the top limbs tell it: never too small.
func guessLimb(rest, by api.Nat) uint64 {
	if rest[3] >= by[3] {
		return math.MaxUint64
	}
	guess, _ := bits.Div64(rest[3], rest[2], by[3])
	return guess
}

// shiftLeft is a times 2 to the n, less what is too great, with n from 0 to 256.
func shiftLeft(a api.Nat, n int) api.Nat {
	var out api.Nat
	whole, part := n/limbBits, n%limbBits
	for i := whole; i < limbs; i++ {
		out[i] = a[i-whole] << part
		if i > whole {
			out[i] |= a[i-whole-1] >> (limbBits - part)
		}
	}
	return out
}

// shiftRight is a by 2 to the n, without the rest, with n from 0 to 256.
func shiftRight(a api.Nat, n int) api.Nat {
	var out api.Nat
	whole, part := n/limbBits, n%limbBits
	for i := whole; i < limbs; i++ {
		out[i-whole] = a[i] >> part
		if i+1 < limbs {
			out[i-whole] |= a[i+1] << (limbBits - part)
		}
	}
	return out
}
