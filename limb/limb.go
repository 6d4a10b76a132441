// Package limb is layer 1: natural numbers of 256 bits, in four limbs, the lowest first. See shared/doc/01-limb.md.
package limb

import (
	"math/bits"

	"excise/api"
)

const (
	limbs    = 4   // limbs of a number
	limbBits = 64  // bits of a limb
	natBits  = 256 // bits of a number
	mostTen  = 77  // the greatest power of ten that is below 2^256
)

// From is the number u.
func From(u uint64) api.Nat { return api.Nat{u} }

// Cmp is -1, 0 or 1, as a is below, at or above b.
func Cmp(a, b api.Nat) int {
	for i := limbs - 1; i >= 0; i-- {
		if a[i] < b[i] {
			return -1
		}
		if a[i] > b[i] {
			return 1
		}
	}
	return 0
}

// Add is the sum, less 2^256 and with true if it is too great.
func Add(a, b api.Nat) (api.Nat, bool) {
	sum, carry := addCarry(a, b)
	return sum, carry != 0
}

// Sub is the difference, with 2^256 and true if it is below 0.
func Sub(a, b api.Nat) (api.Nat, bool) {
	rest, borrow := subBorrow(a, b)
	return rest, borrow != 0
}

// Bits is how many bits a has, without zeros ahead.
func Bits(a api.Nat) int {
	for i := limbs - 1; i >= 0; i-- {
		if a[i] != 0 {
			return i*limbBits + bits.Len64(a[i])
		}
	}
	return 0
}

// Odd tells whether a is odd.
func Odd(a api.Nat) bool { return a[0]%2 == 1 }

func addCarry(a, b api.Nat) (sum api.Nat, carry uint64) {
	for i := range limbs {
		sum[i], carry = bits.Add64(a[i], b[i], carry)
	}
	return sum, carry
}

func subBorrow(a, b api.Nat) (rest api.Nat, borrow uint64) {
	for i := range limbs {
		rest[i], borrow = bits.Sub64(a[i], b[i], borrow)
	}
	return rest, borrow
}
