package cplx_test

import (
	"fmt"
	"math"
	"math/big"
	"math/rand"
	"testing"
)

// eps is how far the float behind 1 is from it; tiny is the least float above nought, full the least one of full length, most the greatest one.
const (
	eps  = 0x1p-52
	tiny = math.SmallestNonzeroFloat64
	full = 0x1p-1022
	most = math.MaxFloat64
)

var (
	infinity = math.Inf(1)
	minus0   = math.Copysign(0, -1)
	none     = math.NaN()
)

// alike: the same bits, or both no numbers.
func alike(a, b float64) bool {
	return math.Float64bits(a) == math.Float64bits(b) || a != a && b != b
}

func same(a, b complex128) bool { return alike(real(a), real(b)) && alike(imag(a), imag(b)) }

// is: is an answer this number?
func is(t *testing.T, what string, z, want complex128) {
	t.Helper()
	if !same(z, want) {
		t.Fatalf("%s = %s, not %s", what, tell(z), tell(want))
	}
}

func tell(z complex128) string {
	return fmt.Sprintf("%v (%016x, %016x)", z, math.Float64bits(real(z)), math.Float64bits(imag(z)))
}

// finites: floats about all borders, of both signs, the noughts among them.
func finites() []float64 {
	l := []float64{
		0, tiny, 2 * tiny, 3 * tiny, full - tiny, full, full + tiny, 0x1p-538, 0x1p-537, 0x1.6a09e667f3bccp-538, 0x1p-512,
		0.1, 1.0 / 3, 0.5, 1 - eps/2, 1, 1 + eps, 2, 3, 4, 10, eps, 0x1p-26, 0x1p-27, 0x1p-28,
		1 << 53, 0x1.fffffffffffffp511, 0x1p512, 0x1p1023, most / 2, most,
	}
	for _, v := range l {
		l = append(l, -v)
	}
	l[len(l)/2] = minus0
	return l
}

// floats: the infinities and what is no number, too.
func floats() []float64 {
	return append(finites(), infinity, -infinity, none, math.Float64frombits(0xfff0<<48|1))
}

// some: a float of an exponent from low to high, of either sign; every other one has but few digits.
func some(r *rand.Rand, low, high int) float64 {
	digits := 1<<52 | r.Uint64()>>12
	if r.Intn(2) == 0 {
		digits &^= 1<<(20+r.Intn(33)) - 1
	}
	v := math.Ldexp(float64(digits), low+r.Intn(high-low+1)-52)
	if r.Intn(2) == 0 {
		v = -v
	}
	return v
}

// near: a number whose parts are of about the size 2^n.
func near(r *rand.Rand, n int) complex128 {
	n = min(max(n, -1074), 1019)
	return complex(some(r, n-4, n+4), some(r, n-4, n+4))
}

// each: numbers whose parts are any two of a list.
func each(l []float64) []complex128 {
	var all []complex128
	for _, re := range l {
		for _, im := range l {
			all = append(all, complex(re, im))
		}
	}
	return all
}

// numbers: of finite parts: any two of the edges, and others of all sizes, as far from one another as parts may be.
func numbers() []complex128 {
	all := each(finites())
	r := rand.New(rand.NewSource(60))
	for range 3000 {
		n := r.Intn(2090) - 1074
		all = append(all, near(r, n), near(r, 0))
		for _, off := range []int{23, 26, 27, 28, 29, 53, 200} {
			big, small := some(r, n, n), some(r, max(n-off, -1074), max(n-off, -1074))
			all = append(all, complex(big, small), complex(small, big))
		}
	}
	return all
}

// pairs: pairs of numbers between all edges, the infinite ones and what is no number among them; and of others of such sizes as make sums, products and quotients of any size.
func pairs(ask func(a, b complex128)) {
	l := each(floats())
	for i, a := range l {
		for j := i % 61; j < len(l); j += 61 {
			ask(a, l[j])
		}
	}
	r := rand.New(rand.NewSource(61))
	for range 3000 {
		n := r.Intn(2090) - 1074
		a := near(r, n)
		ask(a, near(r, r.Intn(2090)-1074))
		ask(a, near(r, n))
		ask(a, near(r, -1060-n))
		ask(a, near(r, 1018-n))
		ask(near(r, 0), near(r, 0))
	}
}

func finite(l ...float64) bool {
	for _, v := range l {
		if v != v || math.IsInf(v, 0) {
			return false
		}
	}
	return true
}

// worth: what a finite float is worth.
func worth(v float64) *big.Rat { return new(big.Rat).SetFloat64(v) }

// rounded: what is reckoned by the library, with so many bits that it is exact, or has nothing to do with a tie, rounded once, to the nearest float, ties to even. Where there is nothing to round, own holds: a nought, whose sign the library does not tell, or what comes of infinities and no numbers.
func rounded(do func(z, x, y *big.Float) *big.Float, bits uint, x, y, own float64) float64 {
	if !finite(x, y) {
		return own
	}
	z := do(new(big.Float).SetPrec(bits), big.NewFloat(x), big.NewFloat(y))
	if z.Sign() == 0 {
		return own
	}
	v, _ := z.Float64()
	return v
}

func add(x, y float64) float64 { return rounded((*big.Float).Add, 2200, x, y, x+y) }
func sub(x, y float64) float64 { return rounded((*big.Float).Sub, 2200, x, y, x-y) }
func mul(x, y float64) float64 { return rounded((*big.Float).Mul, 106, x, y, x*y) }

func quo(x, y float64) float64 {
	if y == 0 {
		return x / y
	}
	return rounded((*big.Float).Quo, 200, x, y, x/y)
}

func square(v float64) *big.Rat { return new(big.Rat).Mul(worth(v), worth(v)) }

// far: the square of a finite number's distance.
func far(z complex128) *big.Rat {
	return new(big.Rat).Add(square(real(z)), square(imag(z)))
}
