package span_test

import (
	"math"
	"math/big"
	"math/rand"
	"testing"

	"polestar/api"
	"polestar/frac"
	"polestar/span"
)

// eps is how far the float behind 1 is from it; tiny is the least float above nought, full the least one of full length, most the greatest one.
const (
	eps  = 0x1p-52
	tiny = math.SmallestNonzeroFloat64
	full = 0x1p-1022
	most = math.MaxFloat64
)

var (
	infinity = math.Inf(1)
	minus0   = math.Copysign(0, -1)
	none     = math.NaN()
)

// to: the span from lo to hi.
func to(lo, hi float64) api.Span { return api.Span{Lo: lo, Hi: hi} }

// bits: the span of two floats that are told by their bits.
func bits(lo, hi uint64) api.Span { return to(math.Float64frombits(lo), math.Float64frombits(hi)) }

// same: are two spans the same, bit by bit?
func same(s, w api.Span) bool {
	return math.Float64bits(s.Lo) == math.Float64bits(w.Lo) && math.Float64bits(s.Hi) == math.Float64bits(w.Hi)
}

// is: is an answer this span, or this error and the zero span?
func is(t *testing.T, what string, s api.Span, e api.Errno, want api.Span, code api.Errno) {
	t.Helper()
	if code != api.OK {
		want = api.Span{}
	}
	if !same(s, want) || e != code {
		t.Fatalf("%s = %v (%x .. %x), %v, not %v, %v", what, s, math.Float64bits(s.Lo), math.Float64bits(s.Hi), e, want, code)
	}
}

// edges: floats about all borders, of both signs, the noughts among them; all finite.
func edges() []float64 {
	l := []float64{
		0, tiny, 2 * tiny, 3 * tiny, full - tiny, full, full + tiny, 0x1p-538, 0x1p-537, 0x1.6a09e667f3bccp-538, 0x1.6a09e667f3bcdp-538, 0x1p-512,
		0.1, 1.0 / 3, 0.5, 1 - eps/2, 1, 1 + eps, 1.5, 2 - eps, 2, 3, 4, 10, eps, eps / 4,
		1 << 53, 0x1.fffffffffffffp511, 0x1p512, 0x1p970, 0x1p1023, most / 2, most - 0x1p971, most,
	}
	for _, v := range l {
		l = append(l, math.Copysign(v, -1))
	}
	return l
}

// some: a float of an exponent from low to high, of either sign; every other one has but few digits.
func some(r *rand.Rand, low, high int) float64 {
	digits := 1<<52 | r.Uint64()>>12
	if r.Intn(2) == 0 {
		digits &^= 1<<(20+r.Intn(33)) - 1
	}
	v := math.Ldexp(float64(digits), low+r.Intn(high-low+1)-52)
	if r.Intn(2) == 0 {
		v = -v
	}
	return v
}

// near: a span whose ends are of about the size 2^n.
func near(r *rand.Rand, n int) api.Span {
	n = min(max(n, -1074), 1019)
	a, b := some(r, n-4, n+4), some(r, n-4, n+4)
	switch r.Intn(6) {
	case 0: // of one number
		b = a
	case 1: // of few
		b = math.Nextafter(a, infinity)
	case 2: // of one sign
		b = math.Copysign(b, a)
	case 3: // one end is nought
		b *= 0
	}
	return to(min(a, b), max(a, b))
}

// spans: spans between edges.
func spans() []api.Span {
	l, e := []api.Span{to(0, minus0), to(minus0, 0)}, edges()
	for i, a := range e {
		l = append(l, to(a, a))
		for j := i % 5; j < len(e); j += 5 {
			if b := e[j]; a <= b {
				l = append(l, to(a, b))
			}
		}
	}
	return l
}

// pairs: pairs of spans between edges, and of others: of such as make sums, products and quotients of any size, the least and the greatest ones among them.
func pairs(ask func(a, b api.Span)) {
	l := spans()
	for i, a := range l {
		for j := i % 37; j < len(l); j += 37 {
			ask(a, l[j])
		}
		ask(a, a)
	}
	r := rand.New(rand.NewSource(50))
	for range 3000 {
		n := r.Intn(2100) - 1078
		a := near(r, n)
		ask(a, near(r, r.Intn(2100)-1078))
		ask(a, near(r, n-r.Intn(60)))       // sums that lose something
		ask(a, near(r, -900-r.Intn(180)-n)) // products that are small
		ask(a, near(r, 1024-n))             // and great
		ask(a, near(r, n+900+r.Intn(180)))  // quotients that are small
		ask(a, near(r, n-1024))             // and great
		ask(near(r, 0), near(r, 0))         // all of middle size
		ask(near(r, 1019), near(r, 1019))   // sums beyond the floats
		ask(a, to(a.Hi, math.Abs(a.Hi)))    // one begins where the other ends
	}
}

// wrong: spans that may not be, one for each cause.
func wrong() []api.Span {
	return []api.Span{
		to(1, 0), to(tiny, 0), to(0, -tiny), to(1+eps, 1), to(most, -most), to(-1, -2),
		to(infinity, infinity), to(-infinity, -infinity), to(-infinity, infinity), to(infinity, -infinity),
		to(0, infinity), to(-infinity, 0), to(infinity, 0), to(0, -infinity), to(most, infinity), to(-infinity, -most),
		to(none, none), to(none, 1), to(1, none), to(none, infinity), to(-infinity, none), to(none, -infinity), to(infinity, none),
		bits(0x7ff<<52|1, 0), bits(0, 1<<64-1),
	}
}

// two is a call of two spans; is is what the library says of two numbers.
type two struct {
	name string
	do   func(a, b api.Span) (api.Span, api.Errno)
	is   func(z, x, y *big.Rat) *big.Rat
}

func twos() []two {
	return []two{
		{"Add", span.Add, (*big.Rat).Add}, {"Sub", span.Sub, (*big.Rat).Sub},
		{"Mul", span.Mul, (*big.Rat).Mul}, {"Quo", span.Quo, (*big.Rat).Quo},
	}
}

// hasNought: does a span that may be have 0?
func hasNought(s api.Span) bool { return s.Lo <= 0 && s.Hi >= 0 }

// worth: what a finite float is worth.
func worth(v float64) *big.Rat { return new(big.Rat).SetFloat64(v) }

// above: the least float that is not below x; false, if it is not finite. Nought is plus nought.
func above(x *big.Rat) (float64, bool) {
	v, _ := x.Float64()
	if math.IsInf(v, -1) {
		v = -most
	}
	if !math.IsInf(v, 1) && worth(v).Cmp(x) < 0 {
		v = math.Nextafter(v, infinity)
	}
	if v == 0 {
		v = 0 // of whichever sign it was
	}
	return v, !math.IsInf(v, 1)
}

// below: the greatest float that is not above x; false, if it is not finite.
func below(x *big.Rat) (float64, bool) {
	v, ok := above(neg(x))
	if v == 0 {
		return 0, ok
	}
	return -v, ok
}

// around: the least span of some numbers, or ErrInf.
func around(l ...*big.Rat) (api.Span, api.Errno) {
	low, high := l[0], l[0]
	for _, x := range l {
		if x.Cmp(low) < 0 {
			low = x
		}
		if x.Cmp(high) > 0 {
			high = x
		}
	}
	lo, ok := below(low)
	hi, okToo := above(high)
	if !ok || !okToo {
		return api.Span{}, api.ErrInf
	}
	return to(lo, hi), api.OK
}

// of: a fraction of the library's as the program has it.
func of(x *big.Rat) api.Frac {
	f, errno := frac.Parse(x.RatString())
	if errno != api.OK {
		panic(errno)
	}
	return f
}

// within: some numbers that a span has: its ends, nought, and such as lie between, some of which are no floats.
func within(s api.Span) []*big.Rat {
	lo, hi := worth(s.Lo), worth(s.Hi)
	l := []*big.Rat{lo, hi}
	if hasNought(s) {
		l = append(l, new(big.Rat))
	}
	wide := sub(hi, lo)
	for _, part := range []*big.Rat{big.NewRat(1, 3), big.NewRat(6, 7)} {
		l = append(l, add(lo, new(big.Rat).Mul(wide, part)))
	}
	return l
}

// power: 2^n, of either sign of n.
func power(n int) *big.Rat {
	x := new(big.Rat).SetInt(new(big.Int).Lsh(big.NewInt(1), uint(max(n, -n))))
	if n < 0 {
		x.Inv(x)
	}
	return x
}

func add(x, y *big.Rat) *big.Rat { return new(big.Rat).Add(x, y) }
func sub(x, y *big.Rat) *big.Rat { return new(big.Rat).Sub(x, y) }
func mul(x, y *big.Rat) *big.Rat { return new(big.Rat).Mul(x, y) }
func neg(x *big.Rat) *big.Rat    { return new(big.Rat).Neg(x) }
