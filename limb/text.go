package limb

import "excise/api"

// mostDigits is how many digits 2^256 - 1 has.
const mostDigits = 78

// Text is a's decimal digits, without a 0 ahead of others.
func Text(a api.Nat) string {
	var digits [mostDigits]byte
	var digit uint64
	at := len(digits)
again:
	at--
	a, digit = divLimb(a, 10)
	digits[at] = '0' + byte(digit)
	if a != (api.Nat{}) {
		goto again
	}
	return string(digits[at:])
}

// Parse is the number that s says, in the one form that Text gives.
func Parse(s string) (api.Nat, api.Errno) {
	// All bytes are looked at first: a wrong one is told even behind a number that is too great.
	if !isDigits(s) {
		return api.Nat{}, api.ErrDigits
	}
	var number api.Nat
	for i := range len(s) {
		var fits bool
		number, fits = appendDigit(number, s[i])
		if !fits {
			return api.Nat{}, api.ErrOver
		}
	}
	return number, api.OK
}

// isDigits tells whether s is digits, with no 0 ahead of others.
func isDigits(s string) bool {
	if s == "" || len(s) > 1 && s[0] == '0' {
		return false
	}
	for i := range len(s) {
		if s[i] < '0' || s[i] > '9' {
			return false
		}
	}
	return true
}

// appendDigit is a with one more digit behind it; false, if that is too great.
func appendDigit(a api.Nat, digit byte) (api.Nat, bool) {
	tens, top := mulLimb(a, 10)
	sum, over := Add(tens, From(uint64(digit-'0')))
	return sum, top == 0 && !over
}
