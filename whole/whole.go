// Package whole is layer 1: whole numbers of any size. See doc/01-whole.md.
package whole

import (
	"polestar/api"
	"polestar/large"
)

// Of: a number of 64 bits. (P1.1)
func Of(n int64) api.Int { return large.Of(n).Int() }

// Check: may a number be? (P1.1)
func Check(x api.Int) api.Errno {
	n := len(x.Mag)
	switch {
	case n > api.MaxLimbs,
		n > 0 && x.Mag[n-1] == 0,
		n == 0 && x.Neg:
		return api.ErrArg
	}
	return api.OK
}

// Int64: a number as one of 64 bits; false: it does not fit. (P1.2)
func Int64(x api.Int) (int64, bool) {
	if Check(x) != api.OK {
		return 0, false
	}
	return large.From(x).Int64()
}

// Sign: -1, 0 or 1. (P1.2)
func Sign(x api.Int) int {
	if Check(x) != api.OK {
		return 0
	}
	return large.From(x).Sign()
}

// Bits: how many it has, without its sign. (P1.2)
func Bits(x api.Int) int {
	if Check(x) != api.OK {
		return 0
	}
	return large.From(x).Bits()
}

// Cmp: -1, 0 or 1. (P1.2)
func Cmp(x, y api.Int) int {
	if check(x, y) != api.OK {
		return 0
	}
	return large.From(x).Cmp(large.From(y))
}

// Add: the sum. (P1.3)
func Add(x, y api.Int) (api.Int, api.Errno) { return reckon(x, y, large.Int.Add) }

// Sub: the difference. (P1.3)
func Sub(x, y api.Int) (api.Int, api.Errno) { return reckon(x, y, large.Int.Sub) }

// Mul: the product. (P1.3)
func Mul(x, y api.Int) (api.Int, api.Errno) { return reckon(x, y, large.Int.Mul) }

// QuoRem: the quotient toward nought, and what is left. (P1.4)
func QuoRem(x, y api.Int) (q, r api.Int, e api.Errno) {
	if e := check(x, y); e != api.OK {
		return q, r, e
	}
	if len(y.Mag) == 0 {
		return q, r, api.ErrZero
	}
	quo, rest := large.From(x).QuoRem(large.From(y))
	return quo.Int(), rest.Int(), api.OK
}

// GCD: the greatest number that goes into both. (P1.4)
func GCD(x, y api.Int) (api.Int, api.Errno) { return reckon(x, y, large.Int.GCD) }

// Root: the greatest number whose square is not above it, and whether it is a square. (P1.5)
func Root(x api.Int) (r api.Int, square bool, e api.Errno) {
	if Check(x) != api.OK || x.Neg {
		return api.Int{}, false, api.ErrArg
	}
	n := large.From(x)
	root := n.Root()
	return root.Int(), root.Mul(root).Cmp(n) == 0, api.OK
}

// Shift: times a power of two, rounded down. (P1.5)
func Shift(x api.Int, n int) (api.Int, api.Errno) {
	if e := Check(x); e != api.OK {
		return api.Int{}, e
	}
	bits := Bits(x)
	if bits > 0 && n > 32*api.MaxLimbs-bits { // asked first, as n may be beyond all memory
		return api.Int{}, api.ErrLimit
	}
	return large.From(x).Shift(n).Fit()
}

// Text: its digits. (P1.6)
func Text(x api.Int) (string, api.Errno) {
	if e := Check(x); e != api.OK {
		return "", e
	}
	return large.From(x).Text(), api.OK
}

// Parse: the number that Text tells so. (P1.6)
func Parse(s string) (api.Int, api.Errno) {
	if len(s) > api.MaxText {
		return api.Int{}, api.ErrLimit
	}
	x, ok := large.Parse(s)
	if !ok {
		return api.Int{}, api.ErrForm
	}
	return x.Fit()
}

// check: may all of these numbers be?
func check(l ...api.Int) api.Errno {
	for _, x := range l {
		if e := Check(x); e != api.OK {
			return e
		}
	}
	return api.OK
}

// reckon: what is done to two numbers that may be, if it fits.
func reckon(x, y api.Int, do func(a, b large.Int) large.Int) (api.Int, api.Errno) {
	if e := check(x, y); e != api.OK {
		return api.Int{}, e
	}
	return do(large.From(x), large.From(y)).Fit()
}
