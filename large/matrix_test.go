package large_test

import (
	"math/big"
	"math/rand"
	"testing"

	"polestar/api"
	"polestar/large"
)

func someFrac(t *testing.T, r *rand.Rand, limbs int) large.Frac {
	return ratio(t, sized(r, r.Intn(limbs+1)), sized(r, r.Intn(limbs+1)))
}

func worthMatrix(m large.Matrix) [4]*big.Rat {
	return [4]*big.Rat{worthFrac(m.A), worthFrac(m.B), worthFrac(m.C), worthFrac(m.D)}
}

func sameMatrix(t *testing.T, what string, got large.Matrix, want [4]*big.Rat) {
	t.Helper()
	for i, x := range []large.Frac{got.A, got.B, got.C, got.D} {
		sameFrac(t, what, x, want[i])
	}
}

// TestMatrix: against the library's fractions; nothing asks here for the determinant.
func TestMatrix(t *testing.T) {
	r := rand.New(rand.NewSource(11))
	some := func(limbs int) large.Matrix {
		return large.Matrix{A: someFrac(t, r, limbs), B: someFrac(t, r, limbs), C: someFrac(t, r, limbs), D: someFrac(t, r, limbs)}
	}
	for i := range 300 {
		m, n, in := some(i%5), some(i%7), large.Ray{Y: someFrac(t, r, 4), U: someFrac(t, r, 4)}
		a, b := worthMatrix(m), worthMatrix(n)
		sameMatrix(t, "Mul", m.Mul(n), [4]*big.Rat{
			summed(a[0], b[0], a[1], b[2]), summed(a[0], b[1], a[1], b[3]), summed(a[2], b[0], a[3], b[2]), summed(a[2], b[1], a[3], b[3]),
		})
		minus := [4]*big.Rat{}
		for i, x := range a {
			minus[i] = new(big.Rat).Neg(x)
		}
		sameMatrix(t, "Neg", m.Neg(), minus)
		out := m.Through(in)
		sameFrac(t, "Through, Y", out.Y, summed(a[0], worthFrac(in.Y), a[1], worthFrac(in.U)))
		sameFrac(t, "Through, U", out.U, summed(a[2], worthFrac(in.Y), a[3], worthFrac(in.U)))
		told, e := m.Fit()
		sameMatrix(t, "there and back", large.FromMatrix(told), a)
		way, f := in.Fit()
		back := large.FromRay(way)
		sameFrac(t, "there and back, Y", back.Y, worthFrac(in.Y))
		sameFrac(t, "there and back, U", back.U, worthFrac(in.U))
		if e != api.OK || f != api.OK {
			t.Fatalf("Fit = %v, %v", e, f)
		}
	}
}

// TestSpaceAndLens: of lengths and powers on both sides of nought.
func TestSpaceAndLens(t *testing.T) {
	r := rand.New(rand.NewSource(12))
	one, none := big.NewRat(1, 1), new(big.Rat)
	for _, n := range []int64{0, 1, -1, 1<<63 - 1, -1 << 63} {
		sameFrac(t, "Whole", large.Whole(n), big.NewRat(n, 1))
	}
	for range 50 {
		x := someFrac(t, r, 3)
		sameMatrix(t, "Space", large.Space(x), [4]*big.Rat{one, worthFrac(x), none, one})
		sameMatrix(t, "Lens", large.Lens(x), [4]*big.Rat{one, none, new(big.Rat).Neg(worthFrac(x)), one})
	}
}

// TestMatrixBeyond: a number with too many limbs in any one place.
func TestMatrixBeyond(t *testing.T) {
	one := large.Whole(1)
	for _, x := range []large.Frac{large.Ratio(large.Of(1).Shift(32*api.MaxLimbs), large.Of(1)), large.Ratio(large.Of(-1), large.Of(1).Shift(32*api.MaxLimbs))} {
		for _, m := range []large.Matrix{{x, one, one, one}, {one, x, one, one}, {one, one, x, one}, {one, one, one, x}} {
			if got, e := m.Fit(); e != api.ErrLimit || got.A.Den.Mag != nil || got.D.Den.Mag != nil {
				t.Errorf("Fit of a matrix = %v", e)
			}
		}
		for _, r := range []large.Ray{{Y: x, U: one}, {Y: one, U: x}} {
			if got, e := r.Fit(); e != api.ErrLimit || got.Y.Den.Mag != nil || got.U.Den.Mag != nil {
				t.Errorf("Fit of a ray = %v", e)
			}
		}
	}
}
