package large_test

import (
	"math/big"
	"math/rand"
	"testing"

	"polestar/api"
	"polestar/large"
)

// pair is a complex number by the library's fractions.
type pair struct{ re, im *big.Rat }

func worthGauss(z large.Gauss) pair { return pair{worthFrac(z.Re), worthFrac(z.Im)} }

func sameGauss(t *testing.T, what string, got large.Gauss, want pair) {
	t.Helper()
	sameFrac(t, what+", Re", got.Re, want.re)
	sameFrac(t, what+", Im", got.Im, want.im)
}

// summed: a b + c d.
func summed(a, b, c, d *big.Rat) *big.Rat {
	first := new(big.Rat).Mul(a, b)
	return first.Add(first, new(big.Rat).Mul(c, d))
}

func (z pair) mirrored() pair { return pair{z.re, new(big.Rat).Neg(z.im)} }
func (z pair) norm() *big.Rat { return summed(z.re, z.re, z.im, z.im) }

func (z pair) times(w pair) pair {
	return pair{summed(z.re, w.re, z.im, w.mirrored().im), summed(z.re, w.im, z.im, w.re)}
}

// looksGauss: all that is asked of two numbers, against the library's fractions.
func looksGauss(t *testing.T, z, w large.Gauss) {
	t.Helper()
	a, b := worthGauss(z), worthGauss(w)
	sameGauss(t, "Add", z.Add(w), pair{new(big.Rat).Add(a.re, b.re), new(big.Rat).Add(a.im, b.im)})
	sameGauss(t, "Sub", z.Sub(w), pair{new(big.Rat).Sub(a.re, b.re), new(big.Rat).Sub(a.im, b.im)})
	sameGauss(t, "Mul", z.Mul(w), a.times(b))
	sameGauss(t, "Conj", z.Conj(), a.mirrored())
	sameFrac(t, "Norm", z.Norm(), a.norm())
	if n := b.norm(); n.Sign() != 0 {
		c := a.times(b.mirrored())
		sameGauss(t, "Quo", z.Quo(w), pair{new(big.Rat).Quo(c.re, n), new(big.Rat).Quo(c.im, n)})
	}
	sameGauss(t, "z", z, a)
	sameGauss(t, "w", w, b)
	back := large.FromGauss(api.Gauss{Re: z.Re.Frac(), Im: z.Im.Frac()})
	sameGauss(t, "there and back", back, a)
}

// TestGaussAgainstLibrary: numbers of several sizes, among them such as have noughts, and parts with one denominator.
func TestGaussAgainstLibrary(t *testing.T) {
	r := rand.New(rand.NewSource(8))
	part := func(limbs int) large.Frac { return ratio(t, sized(r, r.Intn(limbs)), sized(r, r.Intn(limbs))) }
	for _, c := range []struct{ count, limbs int }{{1500, 4}, {60, 40}} {
		for range c.count {
			z := large.Gauss{Re: part(c.limbs), Im: part(c.limbs)}
			looksGauss(t, z, large.Gauss{Re: part(c.limbs), Im: part(c.limbs)})
			looksGauss(t, z, z.Conj())
			looksGauss(t, z, large.Gauss{Re: z.Im, Im: z.Re})
			looksGauss(t, z, z)
		}
	}
	long := large.Gauss{Re: part(2400), Im: part(2400)} // beyond the limit of the layers
	looksGauss(t, long, large.Gauss{Re: part(3), Im: part(3)})
}

// TestFit: the greatest numbers that fit, and the next ones, in every place.
func TestFit(t *testing.T) {
	one := large.Of(1)
	beyond := one.Shift(32 * api.MaxLimbs)
	most := beyond.Sub(one)
	whole := func(n large.Int) large.Frac { return large.Ratio(n, one) }
	for _, c := range []struct {
		n large.Int
		e api.Errno
	}{{most, api.OK}, {most.Neg(), api.OK}, {beyond, api.ErrLimit}, {beyond.Neg(), api.ErrLimit}} {
		x, e := c.n.Fit()
		if wanted := worth(c.n); e != c.e || e == api.OK && worth(large.From(x)).Cmp(wanted) != 0 || e != api.OK && x.Mag != nil {
			t.Errorf("Fit of a number of %d bits: %v, %v", c.n.Bits(), x, e)
		}
		for i, part := range []large.Frac{whole(c.n), large.Ratio(one, c.n)} {
			if _, e := part.Fit(); e != c.e {
				t.Errorf("Fit of fraction %d: %v", i, e)
			}
			for j, z := range []large.Gauss{{Re: part, Im: whole(one)}, {Re: whole(one), Im: part}} {
				told, e := z.Fit()
				if e != c.e {
					t.Fatalf("Fit of fraction %d as part %d: %v", i, j, e)
				}
				if e == api.OK {
					sameGauss(t, "Fit", large.FromGauss(told), worthGauss(z))
				}
			}
		}
	}
}
