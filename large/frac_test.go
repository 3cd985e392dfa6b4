package large_test

import (
	"math/big"
	"math/rand"
	"testing"

	"polestar/large"
)

// worthFrac: what a fraction is worth, told by the library.
func worthFrac(x large.Frac) *big.Rat {
	told := x.Frac()
	return new(big.Rat).SetFrac(worth(large.From(told.Num)), worth(large.From(told.Den)))
}

func sameFrac(t *testing.T, what string, got large.Frac, want *big.Rat) {
	t.Helper()
	told := got.Frac()
	same(t, what+", the numerator", large.From(told.Num), want.Num())
	same(t, what+", the denominator", large.From(told.Den), want.Denom())
	same(t, what+", Den", got.Den(), want.Denom())
	if bits := max(want.Num().BitLen(), want.Denom().BitLen()); got.Bits() != bits || got.Limbs() != (bits+31)/32 {
		t.Fatalf("%s: %d bits, %d limbs, not %d bits", what, got.Bits(), got.Limbs(), bits)
	}
}

// looksFrac: all that is asked of two fractions, against the library's.
func looksFrac(t *testing.T, x, y large.Frac) {
	t.Helper()
	a, b := worthFrac(x), worthFrac(y)
	sameFrac(t, "Add", x.Add(y), new(big.Rat).Add(a, b))
	sameFrac(t, "Sub", x.Sub(y), new(big.Rat).Sub(a, b))
	sameFrac(t, "Mul", x.Mul(y), new(big.Rat).Mul(a, b))
	sameFrac(t, "Neg", x.Neg(), new(big.Rat).Neg(a))
	sameFrac(t, "Abs", x.Abs(), new(big.Rat).Abs(a))
	if y.Sign() != 0 {
		sameFrac(t, "Quo", x.Quo(y), new(big.Rat).Quo(a, b))
	}
	if x.Sign() != a.Sign() || x.Cmp(y) != a.Cmp(b) {
		t.Fatalf("%v and %v: Sign %d, Cmp %d", a, b, x.Sign(), x.Cmp(y))
	}
	sameFrac(t, "x", x, a)
	sameFrac(t, "y", y, b)
	sameFrac(t, "there and back", large.FromFrac(x.Frac()), a)
}

// ratio: a fraction of two numbers, the second one of which is not taken if it is nought.
func ratio(t *testing.T, num, den large.Int) large.Frac {
	t.Helper()
	if den.Sign() == 0 {
		den = large.Of(-1)
	}
	x := large.Ratio(num, den)
	sameFrac(t, "Ratio", x, new(big.Rat).SetFrac(worth(num), worth(den)))
	return x
}

func TestFracAgainstLibrary(t *testing.T) {
	r := rand.New(rand.NewSource(6))
	for range 3000 {
		looksFrac(t, ratio(t, sized(r, r.Intn(5)), sized(r, r.Intn(5))), ratio(t, sized(r, r.Intn(5)), sized(r, r.Intn(5))))
	}
	for range 50 {
		looksFrac(t, ratio(t, sized(r, r.Intn(90)), sized(r, r.Intn(90))), ratio(t, sized(r, r.Intn(90)), sized(r, r.Intn(90))))
	}
	x := ratio(t, sized(r, 2500), sized(r, 2300)) // beyond the limit of the layers
	looksFrac(t, x, ratio(t, sized(r, 5), sized(r, 2400)))
}

// TestFracCommon: fractions whose numbers have much in common, one's with the other's.
func TestFracCommon(t *testing.T) {
	r := rand.New(rand.NewSource(7))
	for range 1500 {
		g, h := sized(r, 1+r.Intn(4)), sized(r, 1+r.Intn(4))
		a, b, c := sized(r, 1+r.Intn(3)), sized(r, 1+r.Intn(3)), sized(r, 1+r.Intn(3))
		x := ratio(t, a.Mul(g), b.Mul(h))
		looksFrac(t, x, ratio(t, c.Mul(h), b.Mul(g)))
		looksFrac(t, x, ratio(t, c.Mul(g), a.Mul(h)))
		looksFrac(t, x, ratio(t, c, b.Mul(h)))
		looksFrac(t, x, x)
		looksFrac(t, x, x.Neg())
		looksFrac(t, x, ratio(t, b.Mul(h), a.Mul(g)))
	}
}

// TestAbove: the least multiple that is not below, of both signs, of multiples and of what lies a hair beside them.
func TestAbove(t *testing.T) {
	r := rand.New(rand.NewSource(9))
	ask := func(x large.Frac, n int) {
		t.Helper()
		a := worthFrac(x)
		unit := new(big.Rat).SetFrac(big.NewInt(1), new(big.Int).Lsh(big.NewInt(1), uint(n)))
		got := worthFrac(x.Above(n))
		if units := new(big.Rat).Quo(got, unit); !units.IsInt() || got.Cmp(a) < 0 || new(big.Rat).Sub(got, unit).Cmp(a) >= 0 {
			t.Fatalf("Above of %v, %d = %v", a, n, got)
		}
		sameFrac(t, "Above", x.Above(n), got)
		sameFrac(t, "x", x, a)
	}
	for range 1000 {
		n := r.Intn(200)
		x := ratio(t, sized(r, r.Intn(5)), sized(r, r.Intn(5)))
		ask(x, n)
		ask(x.Neg(), n)
		ask(ratio(t, sized(r, r.Intn(5)), large.Of(1).Shift(n)), n)
		hair := ratio(t, large.Of(1), sized(r, 9))
		ask(ratio(t, sized(r, r.Intn(3)), large.Of(1).Shift(n)).Add(hair), n)
	}
	ask(ratio(t, large.Of(0), large.Of(1)), 1074)
	ask(ratio(t, large.Of(1), sized(r, 3000)), 1074) // beyond the limit of the layers
	ask(ratio(t, large.Of(7), large.Of(-1)), 0)
}

// TestTimes: the greatest whole number that is not above, of both signs, of whole numbers and of what lies a hair beside them.
func TestTimes(t *testing.T) {
	r := rand.New(rand.NewSource(10))
	ask := func(x large.Frac, n large.Int) {
		t.Helper()
		all := new(big.Rat).Mul(worthFrac(x), new(big.Rat).SetInt(worth(n)))
		floor := new(big.Int).Div(all.Num(), all.Denom()) // rounds down, as the denominator is above nought
		same(t, "Times", x.Times(n), floor)
		same(t, "Times of the negative", x.Neg().Times(n.Neg()), floor)
	}
	for range 1000 {
		n := sized(r, r.Intn(4))
		x := ratio(t, sized(r, r.Intn(5)), sized(r, r.Intn(5)))
		ask(x, n)
		ask(x.Neg(), n)
		ask(ratio(t, sized(r, r.Intn(5)), n), n)
		hair := ratio(t, large.Of(1), sized(r, 9))
		ask(ratio(t, sized(r, r.Intn(3)), n).Add(hair), n)
	}
	ask(large.Whole(0), large.Of(1))
	ask(large.Whole(-1), large.Of(3))
	ask(large.Whole(-1), large.Of(0))
	ask(ratio(t, large.Of(-1), sized(r, 3000)), large.Of(5)) // beyond the limit of the layers
}

// TestCommonOfDenominators: the least number into which all denominators go.
func TestCommonOfDenominators(t *testing.T) {
	r := rand.New(rand.NewSource(11))
	same(t, "Common of none", large.Common(), big.NewInt(1))
	for i := range 300 {
		g, h := sized(r, 1+r.Intn(3)), sized(r, 1+r.Intn(3))
		l := []large.Frac{ratio(t, sized(r, 2), g), ratio(t, sized(r, 2), g.Mul(h)), ratio(t, sized(r, 2), h.Mul(large.Of(12))), large.Whole(int64(i)), ratio(t, sized(r, 1), large.Of(18))}
		want := big.NewInt(1)
		for _, x := range l {
			den := worth(x.Den())
			want.Mul(want, new(big.Int).Div(den, new(big.Int).GCD(nil, nil, want, den)))
		}
		same(t, "Common", large.Common(l...), want)
	}
}
