package frac

import (
	"math"

	"polestar/api"
	"polestar/large"
)

// A float's bits are a sign, 11 for its exponent n, 52 for m: it is worth 2^52 + m units, or, where n is 0, m of those that n = 1 has.
const (
	hidden    = 1 << 52
	exponents = 1<<11 - 1 // and the n of what is not finite
	leastUnit = -1074     // the unit where n is 0 or 1 is 2^leastUnit
)

// FromFloat: what a float is worth. (P2.5)
func FromFloat(v float64) (api.Frac, api.Errno) {
	bits := math.Float64bits(v)
	n, units := int(bits/hidden&exponents), int64(bits%hidden)
	switch n {
	case exponents:
		return api.Frac{}, api.ErrInf
	case 0:
		n = 1
	default:
		units += hidden
	}
	if bits>>63 != 0 {
		units = -units
	}
	return large.Ratio(balance(large.Of(units), large.Of(1), n-1+leastUnit)).Fit()
}

// Float: the nearest float. (P2.5)
func Float(x api.Frac) (float64, api.Errno) {
	if e := Check(x); e != api.OK {
		return 0, e
	}
	if len(x.Num.Mag) == 0 {
		return 0, api.OK
	}
	size := api.Int{Mag: x.Num.Mag}
	bits, ok := nearest(large.From(size), large.From(x.Den))
	if !ok {
		return 0, api.ErrInf
	}
	v := math.Float64frombits(bits)
	if x.Num.Neg && v != 0 { // a nought has no sign
		v = -v
	}
	return v, api.OK
}

// nearest: the bits of the float that num / den, both above nought, is nearest to; false: it is 2^1024.
func nearest(num, den large.Int) (uint64, bool) {
	high := num.Bits() - den.Bits() // 2^high is the greatest power of two not above num / den, or twice that
	if top, bottom := balance(num, den, -high); top.Cmp(bottom) < 0 {
		high--
	}
	if high > 1023 { // far beyond the exponents there are
		return 0, false
	}
	unit := max(high-52, leastUnit)
	num, den = balance(num, den, -unit)
	quo, rest := num.QuoRem(den)
	units, _ := quo.Int64() // fewer than 2^53
	half := rest.Shift(1).Cmp(den)
	if half > 0 || half == 0 && units%2 != 0 {
		units++
	}
	// The hidden bit, where there is one, raises n to what it is; so does a unit too many.
	bits := uint64(unit-leastUnit)*hidden + uint64(units)
	return bits, bits/hidden < exponents
}

// balance: two numbers of which the first one over the second is num 2^n / den.
func balance(num, den large.Int, n int) (top, bottom large.Int) {
	return num.Shift(max(n, 0)), den.Shift(max(-n, 0))
}
