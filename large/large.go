// Package large reckons with whole numbers of any size, fractions and complex numbers of them: what stands on the way to an answer has no limit (DOC.md, R7). The layers look at what they are given, and answer what fits into their limit.
package large

import "polestar/api"

// Int is a whole number; the zero value is nought. Its words are never changed once it is made, so that two may share them.
type Int struct {
	neg  bool
	size []uint64 // the lowest word first; the last one is not 0
}

// made: a number of a size and a sign, which nought has not.
func made(neg bool, size []uint64) Int {
	return Int{neg && len(size) > 0, size}
}

// Of: a number of 64 bits.
func Of(n int64) Int {
	size := uint64(n)
	if n < 0 {
		size = -size
	}
	return made(n < 0, trim([]uint64{size}))
}

// From: a number of whatever size, whose last limb is not 0.
func From(x api.Int) Int {
	size := make([]uint64, (len(x.Mag)+1)/2)
	for i, limb := range x.Mag {
		size[i/2] |= uint64(limb) << (i % 2 * 32)
	}
	return made(x.Neg, size)
}

// Int: as the layers hand it on, in memory of its own.
func (x Int) Int() api.Int {
	limbs := make([]uint32, x.Limbs())
	for i := range limbs {
		limbs[i] = uint32(x.size[i/2] >> (i % 2 * 32))
	}
	return api.Int{Neg: x.neg, Mag: limbs}
}

// Fit: the same, or ErrLimit, if its limbs are more than MaxLimbs.
func (x Int) Fit() (api.Int, api.Errno) {
	if x.Limbs() > api.MaxLimbs {
		return api.Int{}, api.ErrLimit
	}
	return x.Int(), api.OK
}

// Limbs: how many limbs of 32 bits it has.
func (x Int) Limbs() int { return (x.Bits() + 31) / 32 }

// Bits: how many binary digits its size has.
func (x Int) Bits() int { return length(x.size) }

// Sign: -1, 0 or 1.
func (x Int) Sign() int {
	if x.neg {
		return -1
	}
	return min(len(x.size), 1)
}

// Int64: as a number of 64 bits; false: it does not fit.
func (x Int) Int64() (int64, bool) {
	if len(x.size) == 0 {
		return 0, true
	}
	n := int64(x.size[0])
	if x.neg {
		n = -n
	}
	if len(x.size) > 1 || (n < 0) != x.neg { // a size of 2^63 and more turns the sign round
		return 0, false
	}
	return n, true
}

// Cmp: -1, 0 or 1, as x is less, the same, greater.
func (x Int) Cmp(y Int) int {
	switch {
	case x.neg && y.neg:
		return compare(y.size, x.size)
	case x.neg:
		return -1
	case y.neg:
		return 1
	}
	return compare(x.size, y.size)
}

// Neg: with the other sign.
func (x Int) Neg() Int { return made(!x.neg, x.size) }

// Abs: without a sign.
func (x Int) Abs() Int { return made(false, x.size) }

// Add: the sum.
func (x Int) Add(y Int) Int {
	if x.neg == y.neg {
		return made(x.neg, sum(x.size, y.size))
	}
	if compare(x.size, y.size) < 0 {
		x, y = y, x
	}
	return made(x.neg, difference(x.size, y.size))
}

// Sub: the difference.
func (x Int) Sub(y Int) Int { return x.Add(y.Neg()) }

// Mul: the product.
func (x Int) Mul(y Int) Int {
	return made(x.neg != y.neg, product(x.size, y.size))
}

// QuoRem: the quotient toward nought, and what is left, with x's sign; y is not nought.
func (x Int) QuoRem(y Int) (q, r Int) {
	quo, rest := quotient(x.size, y.size)
	return made(x.neg != y.neg, quo), made(x.neg, rest)
}

// GCD: the greatest number that goes into both; of two noughts nought.
func (x Int) GCD(y Int) Int { return made(false, common(x.size, y.size)) }

// Root: the greatest number whose square is not above x, which is not below nought.
func (x Int) Root() Int { return made(false, root(x.size)) }

// Shift: the greatest number not above x 2^n.
func (x Int) Shift(n int) Int {
	if n >= 0 {
		return made(x.neg, shiftUp(x.size, uint(n)))
	}
	fall := -uint(n)
	if !x.neg {
		return made(false, shiftDown(x.size, fall))
	}
	// Rounding down is rounding a size up: one less, cut off, one more.
	one := []uint64{1}
	return made(true, sum(shiftDown(difference(x.size, one), fall), one))
}
