package round_test

import (
	"math"
	"math/big"
	"math/rand"
	"testing"

	"polestar/api"
	"polestar/frac"
	"polestar/round"
)

// eps is how far the float behind 1 is from it; tiny is the least float above nought, least the least one of full length, most the greatest one.
const (
	eps   = 0x1p-52
	tiny  = math.SmallestNonzeroFloat64
	least = 0x1p-1022
	most  = math.MaxFloat64
)

var (
	infinity = math.Inf(1)
	minus0   = math.Copysign(0, -1)
	none     = math.NaN()
)

// same: are two floats the same, bit by bit, or both no numbers?
func same(v, w float64) bool {
	return math.Float64bits(v) == math.Float64bits(w) || math.IsNaN(v) && math.IsNaN(w)
}

func finite(v float64) bool { return !math.IsInf(v, 0) && !math.IsNaN(v) }

// worth: what a finite float is worth.
func worth(v float64) *big.Rat { return new(big.Rat).SetFloat64(v) }

// edges: floats about all borders, of both signs; noughts, infinities and no numbers.
func edges() []float64 {
	l := []float64{
		0, tiny, 2 * tiny, 3 * tiny, 5 * tiny, least / 2, least/2 + tiny, least - tiny, least, least + tiny, 2 * least, 2*least - tiny, 2*least + 2*tiny, 3 * least,
		0x1p-969, 0x1p-968, 0x1.fffffffffffffp-901, 0x1p-900, 0x1.0000000000001p-900,
		0x1p-538, 0x1p-537, 0x1.8p-538, 0x1.8p-537, 0x1.6a09e667f3bcdp-538, 0x1.6a09e667f3bccp-538, 0x1p-512, 0x1.0000000000001p-511,
		0.1, 1.0 / 3, 0.5, 1 - eps/2, 1, 1 + eps, 1 + 2*eps, 1.5, 2 - eps, 2, 3, eps, eps / 2, eps / 4, 3 * eps / 4,
		1<<53 - 1, 1 << 53, 1<<53 + 2, 0x1p511, 0x1.fffffffffffffp511, 0x1p512, 0x1.0000000000001p512,
		0x1p969, 0x1p970, 0x1.0000000000001p970, 0x1p971, 0x1.fffffffffffffp1022, 0x1p1023, most - 0x1p971, most, infinity,
	}
	for _, v := range l {
		l = append(l, math.Copysign(v, -1))
	}
	for _, bits := range []uint64{0x7ff<<52 | 1, 0xfff<<52 | 1, 0x7ff8 << 48, 1<<63 - 1, 1<<64 - 1} {
		l = append(l, math.Float64frombits(bits))
	}
	return l
}

// some: a float of an exponent from low to high, of either sign; every other one has but few digits.
func some(r *rand.Rand, low, high int) float64 {
	digits := 1<<52 | r.Uint64()>>12
	if r.Intn(2) == 0 {
		digits &^= 1<<(20+r.Intn(33)) - 1
	}
	v := math.Ldexp(float64(digits), low+r.Intn(high-low+1)-52)
	if r.Intn(2) == 0 {
		v = -v
	}
	return v
}

// pairs: pairs of edges, and others: of all exponents, of like ones, and of such as make sums, products and quotients of any size, the least and the greatest ones among them.
func pairs(ask func(a, b float64)) {
	for _, a := range edges() {
		for _, b := range edges() {
			ask(a, b)
		}
	}
	r := rand.New(rand.NewSource(40))
	for range 8000 {
		n := r.Intn(2100) - 1078
		near := func(n int) float64 {
			n = min(max(n, -1078), 1021)
			return some(r, n-2, n+2)
		}
		a := near(n)
		ask(a, some(r, -1080, 1023))
		ask(a, near(n-r.Intn(60)))               // sums that lose something
		ask(a, near(-900-r.Intn(180)-n))         // products that are small
		ask(a, near(1024-n))                     // and great
		ask(a, near(n+900+r.Intn(180)))          // quotients that are small
		ask(a, near(n-1024))                     // and great
		ask(a, math.Float64frombits(r.Uint64())) // whatever there is
		ask(a*near(0), a)
	}
}

// two is a call of two floats: what it answers, the operation's own answer, and the exact result, where there is one.
type two struct {
	name  string
	do    func(a, b float64) (down, up float64)
	own   func(a, b float64) float64
	exact func(a, b float64) *big.Rat
}

func twos() []two {
	return []two{
		{"Add", round.Add, func(a, b float64) float64 { return a + b }, ofTwo((*big.Rat).Add)},
		{"Sub", round.Sub, func(a, b float64) float64 { return a - b }, ofTwo((*big.Rat).Sub)},
		{"Mul", round.Mul, func(a, b float64) float64 { return a * b }, ofTwo((*big.Rat).Mul)},
		{"Quo", round.Quo, func(a, b float64) float64 { return a / b }, func(a, b float64) *big.Rat {
			if b == 0 {
				return nil
			}
			return ofTwo((*big.Rat).Quo)(a, b)
		}},
	}
}

// ofTwo: an operation of the library's, of finite floats.
func ofTwo(do func(z, x, y *big.Rat) *big.Rat) func(a, b float64) *big.Rat {
	return func(a, b float64) *big.Rat {
		if !finite(a) || !finite(b) {
			return nil
		}
		return do(new(big.Rat), worth(a), worth(b))
	}
}

// against: -1, 0 or 1, as a float is below a number, the same, above it.
func against(x *big.Rat) func(v float64) int {
	return func(v float64) int {
		switch {
		case math.IsInf(v, 1):
			return 1
		case math.IsInf(v, -1):
			return -1
		}
		return worth(v).Cmp(x)
	}
}

// about: are down and up both own, where that is the exact result, or else the floats straight below and above it? place tells where a float is, seen from the exact result.
func about(t *testing.T, what string, down, up, own float64, place func(v float64) int) {
	t.Helper()
	if place(own) == 0 {
		twice(t, what, down, up, own)
		return
	}
	if math.IsNaN(down) || math.IsNaN(up) || place(down) >= 0 || place(up) <= 0 || !same(up, math.Nextafter(down, infinity)) || same(down, minus0) || same(up, 0) {
		t.Fatalf("%s = %v (%x) and %v (%x), own answer %v", what, down, math.Float64bits(down), up, math.Float64bits(up), own)
	}
}

// twice: are both the same, and this?
func twice(t *testing.T, what string, down, up, want float64) {
	t.Helper()
	both(t, what, down, up, want, want)
}

// both: are these the two?
func both(t *testing.T, what string, down, up, low, high float64) {
	t.Helper()
	if !same(down, low) || !same(up, high) {
		t.Fatalf("%s = %v (%x) and %v (%x), not %v and %v", what, down, math.Float64bits(down), up, math.Float64bits(up), low, high)
	}
}

// of: a fraction of the library's as the program has it.
func of(x *big.Rat) api.Frac {
	f, errno := frac.Parse(x.RatString())
	if errno != api.OK {
		panic(errno)
	}
	return f
}

// power: 2^n, of either sign of n.
func power(n int) *big.Rat {
	x := new(big.Rat).SetInt(new(big.Int).Lsh(big.NewInt(1), uint(max(n, -n))))
	if n < 0 {
		x.Inv(x)
	}
	return x
}

func add(x, y *big.Rat) *big.Rat { return new(big.Rat).Add(x, y) }
func sub(x, y *big.Rat) *big.Rat { return new(big.Rat).Sub(x, y) }
func neg(x *big.Rat) *big.Rat    { return new(big.Rat).Neg(x) }
