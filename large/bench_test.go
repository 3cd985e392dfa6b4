package large_test

import (
	"math/big"
	"math/rand"
	"slices"
	"testing"

	"polestar/api"
	"polestar/large"
)

// someElement: one that may be, of any kind, and the rats of its matrix.
func someElement(t *testing.T, r *rand.Rand, limbs int) (api.Element, [4]*big.Rat) {
	one, none := large.Whole(1), large.Whole(0)
	p, q := someFrac(t, r, limbs), someFrac(t, r, limbs)
	if p.Sign() < 0 {
		p = p.Neg()
	}
	kind := api.ElSpace + api.ElementKind(r.Intn(5))
	a, b := worthFrac(p), worthFrac(q)
	unit, nought := worthFrac(one), worthFrac(none)
	want := [4]*big.Rat{unit, nought, nought, unit}
	switch kind {
	case api.ElSpace:
		q, want[1] = none, a
	case api.ElLens:
		p, q, want[2] = p.Neg(), none, a
	case api.ElSlab:
		q = q.Mul(q).Add(one)
		want[1] = new(big.Rat).Quo(a, worthFrac(q))
	case api.ElSurface:
		want[2] = new(big.Rat).Neg(new(big.Rat).Mul(a, b))
	case api.ElFlip:
		p, q = none, none
		want[0], want[3] = worthFrac(one.Neg()), worthFrac(one.Neg())
	}
	return api.Element{Kind: kind, P: p.Frac(), Q: q.Frac()}, want
}

// TestBench: elements, and benches of them, against the library's fractions.
func TestBench(t *testing.T) {
	r := rand.New(rand.NewSource(13))
	for i := range 200 {
		var l []api.Element
		all := [4]*big.Rat{big.NewRat(1, 1), new(big.Rat), new(big.Rat), big.NewRat(1, 1)}
		for range i % 17 {
			e, m := someElement(t, r, 1+i%4)
			sameMatrix(t, "Element", large.Element(e), m)
			all = [4]*big.Rat{
				summed(m[0], all[0], m[1], all[2]), summed(m[0], all[1], m[1], all[3]), summed(m[2], all[0], m[3], all[2]), summed(m[2], all[1], m[3], all[3]),
			}
			l = append(l, e)
		}
		sameMatrix(t, "Bench", large.Bench(l), all)
		sameMatrix(t, "Mirror", large.Bench(l).Mirror(), [4]*big.Rat{all[3], all[1], all[2], all[0]})
		slices.Reverse(l)
		sameMatrix(t, "Bench of the reversed one", large.Bench(l), [4]*big.Rat{all[3], all[1], all[2], all[0]})
	}
}

// TestTogether: each thing once, in order, whatever the list's length is.
func TestTogether(t *testing.T) {
	for length := range 40 {
		var l []string
		want := ""
		for i := range length {
			l = append(l, string(rune('A'+i)))
			want += l[i]
		}
		if length == 0 {
			want = "none"
		}
		if got := large.Together(l, "none", func(x, y string) string { return x + y }); got != want {
			t.Errorf("Together of %d = %s", length, got)
		}
	}
}
