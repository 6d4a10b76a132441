package summary

import (
	"math/bits"

	"excise/api"
)

const (
	natLimbs  = 4 // limbs of a natural number
	wideLimbs = natLimbs + 1
	signBit   = 1 << 63 // of a wide number's top limb
)

// Widen is d's N with d's sign, whatever the scale is.
func Widen(d api.Dec) api.Wide {
	var w api.Wide
	for i := range natLimbs {
		w[i] = d.N[i]
	}
	if d.Neg {
		return minus(w)
	}
	return w
}

// Narrow is the Dec with this scale whose Widen is w.
func Narrow(w api.Wide, scale int) (api.Dec, api.Errno) {
	if scale < 0 || scale > api.MaxScale {
		return api.Dec{}, api.ErrArg
	}
	neg := w[natLimbs]&signBit != 0
	if neg {
		// The least wide number is its own minus: its top limb is not 0 then either.
		w = minus(w)
	}
	if w[natLimbs] != 0 {
		return api.Dec{}, api.ErrOver
	}
	d := api.Dec{Neg: neg, Scale: scale}
	for i := range natLimbs {
		d.N[i] = w[i]
	}
	return d, api.OK
}

// AddWide is the sum, gone round at 2^320.
func AddWide(a, b api.Wide) api.Wide {
	var sum api.Wide
	var carry uint64
	for i := range wideLimbs {
		sum[i], carry = bits.Add64(a[i], b[i], carry)
	}
	return sum
}

// minus is w with the other sign, in two's complement: all bits turned, and 1 more.
func minus(w api.Wide) api.Wide {
	for i := range wideLimbs {
		w[i] = ^w[i]
	}
	return AddWide(w, api.Wide{1})
}
