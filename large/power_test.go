package large_test

import (
	"math/big"
	"math/rand"
	"testing"

	"polestar/large"
)

// wantChebyshev: U(n - 1) and U(n) at half of t, one by one.
func wantChebyshev(t *big.Rat, n int) (last, next *big.Rat) {
	last, next = new(big.Rat), big.NewRat(1, 1)
	for range n {
		last, next = next, new(big.Rat).Sub(new(big.Rat).Mul(t, next), last)
	}
	return last, next
}

// bitsOf: of the greater one of both numbers.
func bitsOf(x *big.Rat) int { return max(x.Num().BitLen(), x.Denom().BitLen()) }

// TestChebyshev: against the library's fractions, at traces on both sides of 2 and -2, at these, and at those whose numbers come again.
func TestChebyshev(t *testing.T) {
	r := rand.New(rand.NewSource(21))
	var traces []large.Frac
	for n := range int64(11) {
		traces = append(traces, large.Whole(n-5), large.Ratio(large.Of(n-5), large.Of(2)), large.Ratio(large.Of(n-5), large.Of(3)))
	}
	for i := range 60 {
		traces = append(traces, someFrac(t, r, 1+i%6))
	}
	for i, trace := range traces {
		for _, n := range []int{0, 1, 2, 3, 4, 5, 6, 7, 8, 31, 32, 33, r.Intn(120)} {
			last, next, fits := large.Chebyshev(trace, n, large.Any)
			if !fits {
				t.Fatalf("trace %d: U(%d) does not fit", i, n-1)
			}
			a, b := wantChebyshev(worthFrac(trace), n)
			sameFrac(t, "U(n - 1)", last, a)
			sameFrac(t, "U(n)", next, b)
		}
	}
}

// TestChebyshevTooLong: what is told as too long is so; what is longer by far is told so; and what is short enough is told, though others on the way be longer.
func TestChebyshevTooLong(t *testing.T) {
	r := rand.New(rand.NewSource(22))
	refused, told := 0, 0
	for i := range 400 {
		trace, n, most := someFrac(t, r, 1+i%5), r.Intn(80), r.Intn(4000)
		if i%3 == 0 {
			trace = large.Ratio(large.Of(r.Int63n(400)-200), large.Of(1+r.Int63n(100)))
		}
		last, next, fits := large.Chebyshev(trace, n, most)
		a, b := wantChebyshev(worthFrac(trace), n)
		switch {
		case !fits && bitsOf(a) <= most:
			t.Fatalf("%v: U(%d) has %d bits alone, not more than %d", worthFrac(trace), n-1, bitsOf(a), most)
		case fits && bitsOf(a) > most+16:
			t.Fatalf("%v: U(%d) has %d bits, more than %d", worthFrac(trace), n-1, bitsOf(a), most)
		case fits:
			sameFrac(t, "U(n - 1)", last, a)
			sameFrac(t, "U(n)", next, b)
			told++
		default:
			refused++
		}
	}
	if refused < 50 || told < 50 {
		t.Fatalf("%d refused, %d told", refused, told)
	}
	for _, trace := range []large.Frac{large.Whole(0), large.Whole(1), large.Whole(-1), large.Whole(2), large.Whole(-2)} {
		if _, _, fits := large.Chebyshev(trace, 4096, 13); !fits {
			t.Fatalf("%v: U(4095) has more bits than 13", worthFrac(trace))
		}
	}
	long := large.Ratio(large.Of(1).Shift(130000).Add(large.Of(1)), large.Of(1).Shift(131000))
	for _, trace := range []large.Frac{long, long.Neg(), large.Whole(1).Quo(long), large.Whole(2).Add(long), large.Whole(2).Sub(long)} {
		if _, _, fits := large.Chebyshev(trace, 4096, 500000); fits {
			t.Fatal("a number of millions of bits is told")
		}
	}
}

// unitMatrix: one whose determinant is 1.
func unitMatrix(t *testing.T, r *rand.Rand, limbs int) large.Matrix {
	m := large.Space(someFrac(t, r, limbs)).Mul(large.Lens(someFrac(t, r, limbs))).Mul(large.Space(someFrac(t, r, limbs)))
	if r.Intn(2) == 0 {
		return m.Neg()
	}
	return m
}

// TestPower: against one product behind the other.
func TestPower(t *testing.T) {
	r := rand.New(rand.NewSource(23))
	one := large.Lens(large.Whole(0))
	list := []large.Matrix{one, one.Neg(), large.Space(large.Whole(2)), large.Lens(large.Whole(2)).Neg(), large.Space(large.Whole(1)).Mul(large.Lens(large.Whole(1)))}
	for i := range 40 {
		list = append(list, unitMatrix(t, r, i%4))
	}
	for _, m := range list {
		all := one
		for n := range 20 {
			got, fits := m.Power(n, large.Any)
			if !fits {
				t.Fatal("it does not fit")
			}
			sameMatrix(t, "Power", got, worthMatrix(all))
			all = m.Mul(all)
		}
		if got, fits := m.Power(4096, 3); fits && bitsOf(worthFrac(m.A.Add(m.D))) > 2 {
			t.Fatalf("a short Power: %v", worthMatrix(got))
		}
	}
}

// TestCross: of two rays, and that no matrix with the determinant 1 changes it.
func TestCross(t *testing.T) {
	r := rand.New(rand.NewSource(24))
	for i := range 100 {
		a, b := large.Ray{Y: someFrac(t, r, i%5), U: someFrac(t, r, i%4)}, large.Ray{Y: someFrac(t, r, i%3), U: someFrac(t, r, i%5)}
		want := summed(worthFrac(a.Y), worthFrac(b.U), new(big.Rat).Neg(worthFrac(a.U)), worthFrac(b.Y))
		sameFrac(t, "Cross", a.Cross(b), want)
		m := unitMatrix(t, r, 2)
		sameFrac(t, "Cross behind a matrix", m.Through(a).Cross(m.Through(b)), want)
	}
}
