package large

import "math/bits"

// Any: more bits than anything has that is asked for.
const Any = 1<<31 - 1

// Chebyshev: the numbers U(n - 1) and U(n) at half of t; n is from 0 to 4096. False: U(n - 1) has more bits than most; that is seen early, as these numbers soon have far more than an answer may.
func Chebyshev(t Frac, n, most int) (last, next Frac, fits bool) {
	if (t.den.Bits()-1)*(n-1) >= most {
		return Frac{}, Frac{}, false
	}
	// U(k) is here told times the denominator to the power of k: a whole number that has nothing in common with it.
	before, here := Of(0), Of(1)
	square := t.den.Mul(t.den)
	for i := bits.Len(uint(n)) - 1; i >= 0; i-- {
		twice := here.Add(here).Sub(t.num.Mul(before))
		before, here = before.Mul(twice), here.Mul(here).Sub(square.Mul(before.Mul(before)))
		if n>>i&1 == 1 {
			before, here = here, t.num.Mul(here).Sub(square.Mul(before))
		}
		// A later one is no shorter, but for a factor of 4096 at most if |t| is not above 2: and then its denominator is as long.
		if before.Bits() > most+16 {
			return Frac{}, Frac{}, false
		}
	}
	return Frac{before, t.den.power(n - 1)}, Frac{here, t.den.power(n)}, true
}

// Power: m, whose determinant is 1, n times one behind the other; n is from 0 to 4096. False: U(n - 1) at half of the trace has more bits than most.
func (m Matrix) Power(n, most int) (Matrix, bool) {
	last, next, fits := Chebyshev(m.A.Add(m.D), n, most)
	if !fits {
		return Matrix{}, false
	}
	return Matrix{next.Sub(last.Mul(m.D)), last.Mul(m.B), last.Mul(m.C), next.Sub(last.Mul(m.A))}, true
}

// power: 1 times x, n times; 1, if n is not above nought.
func (x Int) power(n int) Int {
	if n <= 0 {
		return Of(1)
	}
	half := x.power(n / 2)
	if n%2 == 0 {
		return half.Mul(half)
	}
	return half.Mul(half).Mul(x)
}
