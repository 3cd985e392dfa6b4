package large

import "polestar/api"

// Gauss is a complex number whose parts are fractions of any size.
type Gauss struct{ Re, Im Frac }

// FromGauss: a number that may be.
func FromGauss(z api.Gauss) Gauss { return Gauss{FromFrac(z.Re), FromFrac(z.Im)} }

// Fit: as the layers hand it on, or ErrLimit.
func (z Gauss) Fit() (api.Gauss, api.Errno) {
	re, e := z.Re.Fit()
	im, f := z.Im.Fit()
	if e != api.OK || f != api.OK {
		return api.Gauss{}, api.ErrLimit
	}
	return api.Gauss{Re: re, Im: im}, api.OK
}

// Conj: mirrored.
func (z Gauss) Conj() Gauss { return Gauss{z.Re, z.Im.Neg()} }

// Norm: the square of how far it is from nought.
func (z Gauss) Norm() Frac { return z.Re.Mul(z.Re).Add(z.Im.Mul(z.Im)) }

// Add: the sum.
func (z Gauss) Add(w Gauss) Gauss { return Gauss{z.Re.Add(w.Re), z.Im.Add(w.Im)} }

// Sub: the difference.
func (z Gauss) Sub(w Gauss) Gauss { return Gauss{z.Re.Sub(w.Re), z.Im.Sub(w.Im)} }

// Mul: the product.
func (z Gauss) Mul(w Gauss) Gauss {
	return Gauss{
		z.Re.Mul(w.Re).Sub(z.Im.Mul(w.Im)),
		z.Re.Mul(w.Im).Add(z.Im.Mul(w.Re)),
	}
}

// Quo: the quotient; w is not nought.
func (z Gauss) Quo(w Gauss) Gauss {
	norm := w.Norm()
	return z.Mul(w.Conj()).each(func(part Frac) Frac { return part.Quo(norm) })
}

// each: what is done to each part.
func (z Gauss) each(do func(part Frac) Frac) Gauss { return Gauss{do(z.Re), do(z.Im)} }
