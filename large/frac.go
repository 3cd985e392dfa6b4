package large

import "polestar/api"

// Frac is a fraction of any size in lowest terms, its denominator above nought. The zero value is none.
type Frac struct{ num, den Int }

// Ratio: num / den; den is not nought.
func Ratio(num, den Int) Frac {
	if den.neg {
		num, den = num.Neg(), den.Neg()
	}
	g := num.GCD(den)
	return Frac{num.over(g), den.over(g)}
}

// Whole: a whole number.
func Whole(n int64) Frac { return Frac{Of(n), Of(1)} }

// FromFrac: a fraction that may be.
func FromFrac(x api.Frac) Frac { return Frac{From(x.Num), From(x.Den)} }

// Frac: as the layers hand it on, in memory of its own.
func (x Frac) Frac() api.Frac { return api.Frac{Num: x.num.Int(), Den: x.den.Int()} }

// Fit: the same, or ErrLimit, if one of both numbers has too many limbs.
func (x Frac) Fit() (api.Frac, api.Errno) {
	if x.Limbs() > api.MaxLimbs {
		return api.Frac{}, api.ErrLimit
	}
	return x.Frac(), api.OK
}

// Den: its denominator.
func (x Frac) Den() Int { return x.den }

// Limbs: how many limbs the greater one of both numbers has.
func (x Frac) Limbs() int { return max(x.num.Limbs(), x.den.Limbs()) }

// Bits: how many binary digits the greater one of both numbers has.
func (x Frac) Bits() int { return max(x.num.Bits(), x.den.Bits()) }

// Sign: -1, 0 or 1.
func (x Frac) Sign() int { return x.num.Sign() }

// Cmp: -1, 0 or 1, as x is below y, the same, above it.
func (x Frac) Cmp(y Frac) int { return x.num.Mul(y.den).Cmp(y.num.Mul(x.den)) }

// Neg: with the other sign.
func (x Frac) Neg() Frac { return Frac{x.num.Neg(), x.den} }

// Abs: without a sign.
func (x Frac) Abs() Frac { return Frac{x.num.Abs(), x.den} }

// Add: the sum.
func (x Frac) Add(y Frac) Frac {
	g := x.den.GCD(y.den)
	left := x.den.over(g)
	num := x.num.Mul(y.den.over(g)).Add(y.num.Mul(left))
	// What goes into one denominator alone does not go into num: so g is all that need be asked, which is less by far than left times y.den.
	h := num.GCD(g)
	return Frac{num.over(h), left.Mul(y.den.over(h))}
}

// Sub: the difference.
func (x Frac) Sub(y Frac) Frac { return x.Add(y.Neg()) }

// Mul: the product.
func (x Frac) Mul(y Frac) Frac {
	// Each is in lowest terms: only one's numerator and the other's denominator have anything in common.
	g, h := x.num.GCD(y.den), y.num.GCD(x.den)
	return Frac{x.num.over(g).Mul(y.num.over(h)), x.den.over(h).Mul(y.den.over(g))}
}

// Quo: the quotient; y is not nought.
func (x Frac) Quo(y Frac) Frac {
	turned := Frac{y.den, y.num}
	if y.num.neg {
		turned = Frac{y.den.Neg(), y.num.Neg()}
	}
	return x.Mul(turned)
}

// Above: the least multiple of 2^-n that is not below x; n is not below nought.
func (x Frac) Above(n int) Frac {
	one := Of(1)
	units, rest := x.num.Shift(n).QuoRem(x.den)
	if rest.Sign() > 0 { // below nought, what is cut off has made it greater already
		units = units.Add(one)
	}
	return Ratio(units, one.Shift(n))
}

// Times: the greatest whole number that is not above x times n.
func (x Frac) Times(n Int) Int {
	all, rest := x.num.Mul(n).QuoRem(x.den)
	if rest.Sign() < 0 { // below nought, what is cut off has made it greater
		return all.Sub(Of(1))
	}
	return all
}

// Common: the least number above nought into which all denominators go.
func Common(l ...Frac) Int {
	all := Of(1)
	for _, x := range l {
		all = all.Mul(x.den.over(all.GCD(x.den)))
	}
	return all
}

// over: x / g, where g goes into x.
func (x Int) over(g Int) Int {
	q, _ := x.QuoRem(g)
	return q
}
