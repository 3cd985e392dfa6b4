package disc_test

import (
	"fmt"
	"math"
	"math/big"
	"math/rand"
	"testing"

	"polestar/api"
	"polestar/disc"
	"polestar/frac"
)

// eps is how far the float behind 1 is from it; tiny is the least float above nought, full the least one of full length, most the greatest one.
const (
	eps  = 0x1p-52
	tiny = math.SmallestNonzeroFloat64
	full = 0x1p-1022
	most = math.MaxFloat64
)

var (
	infinity = math.Inf(1)
	minus0   = math.Copysign(0, -1)
	none     = math.NaN()
)

// at: the disc about a number.
func at(c complex128, r float64) api.Disc { return api.Disc{C: c, R: r} }

func bits(v float64) uint64 { return math.Float64bits(v) }

// same: are two discs the same, bit by bit?
func same(d, w api.Disc) bool {
	return bits(real(d.C)) == bits(real(w.C)) && bits(imag(d.C)) == bits(imag(w.C)) && bits(d.R) == bits(w.R)
}

func tell(d api.Disc) string {
	return fmt.Sprintf("%v; %v (%016x, %016x; %016x)", d.C, d.R, bits(real(d.C)), bits(imag(d.C)), bits(d.R))
}

// is: is an answer this disc, or this error and the zero disc?
func is(t *testing.T, what string, d api.Disc, e api.Errno, want api.Disc, code api.Errno) {
	t.Helper()
	if code != api.OK {
		want = api.Disc{}
	}
	if !same(d, want) || e != code {
		t.Fatalf("%s = %s, %v, not %s, %v", what, tell(d), e, tell(want), code)
	}
}

// two is a call of two discs; want is what the chapter's table says of it.
type two struct {
	name     string
	do, want func(a, b api.Disc) (api.Disc, api.Errno)
}

func twos() []two {
	return []two{
		{"Add", disc.Add, wantAdd}, {"Sub", disc.Sub, wantSub},
		{"Mul", disc.Mul, wantMul}, {"Quo", disc.Quo, wantQuo},
	}
}

// edges: floats about all borders, of both signs, the noughts among them; all finite.
func edges() []float64 {
	l := []float64{
		0, tiny, 2 * tiny, 3 * tiny, full - tiny, full, full + tiny, 0x1p-538, 0x1.6a09e667f3bccp-538, 0x1p-512,
		0.1, 1.0 / 3, 0.5, 1 - eps/2, 1, 1 + eps, 2, 3, 4, 10, eps, eps / 4,
		1 << 53, 0x1.fffffffffffffp511, 0x1p512, 0x1p970, 0x1p1023, most / 2, most,
	}
	for _, v := range l {
		l = append(l, math.Copysign(v, -1))
	}
	return l
}

// some: a float of an exponent from low to high, of either sign; every other one has but few digits.
func some(r *rand.Rand, low, high int) float64 {
	digits := 1<<52 | r.Uint64()>>12
	if r.Intn(2) == 0 {
		digits &^= 1<<(20+r.Intn(33)) - 1
	}
	v := math.Ldexp(float64(digits), low+r.Intn(high-low+1)-52)
	if r.Intn(2) == 0 {
		v = -v
	}
	return v
}

// near: a disc whose middle is of about the size 2^n, its radius nought, far less, or about as great.
func near(r *rand.Rand, n int) api.Disc {
	n = min(max(n, -1074), 1019)
	re, im := some(r, n-4, n+4), some(r, n-4, n+4)
	switch r.Intn(6) {
	case 0:
		re *= 0
	case 1:
		im *= 0
	}
	less := n - r.Intn(70)
	radius := math.Abs(some(r, less, less+2))
	if r.Intn(4) == 0 {
		radius = 0
	}
	return at(complex(re, im), radius)
}

// discs: discs of edges.
func discs() []api.Disc {
	var l []api.Disc
	e := edges()
	for i, re := range e {
		for j := i % 5; j < len(e); j += 5 {
			l = append(l, at(complex(re, e[j]), math.Abs(e[(3*i+7*j)%len(e)])))
		}
		l = append(l, at(complex(re, 0), 0), at(complex(0, re), minus0), at(complex(re, re), 1), at(complex(minus0, 0), math.Abs(re)))
	}
	return l
}

// pairs: pairs of discs of edges, and of others: of such sizes as make sums, products and quotients of any size, the least and the greatest ones among them.
func pairs(ask func(a, b api.Disc)) {
	l := discs()
	for i, a := range l {
		for j := i % 47; j < len(l); j += 47 {
			ask(a, l[j])
		}
		ask(a, a)
	}
	r := rand.New(rand.NewSource(70))
	for range 2000 {
		n := r.Intn(2100) - 1078
		a := near(r, n)
		ask(a, near(r, r.Intn(2100)-1078))
		ask(a, near(r, n-r.Intn(60)))       // sums that lose something
		ask(a, near(r, -900-r.Intn(180)-n)) // products that are small
		ask(a, near(r, 1020-n))             // and great
		ask(a, near(r, n+900+r.Intn(180)))  // quotients that are small
		ask(a, near(r, n-1020))             // and great
		ask(near(r, 0), near(r, 0))         // all of middle size
		ask(near(r, 1019), near(r, 1019))   // sums beyond the floats
		b := near(r, r.Intn(400)-200)
		ask(near(r, r.Intn(400)-200), at(b.C, math.Hypot(real(b.C), imag(b.C)))) // nought lies about the edge
	}
}

// wrong: discs that may not be, one for each cause.
func wrong() []api.Disc {
	l := []api.Disc{at(0, -tiny), at(0, -1), at(3-4i, -most), at(1, math.Nextafter(minus0, -1))}
	for _, v := range []float64{infinity, -infinity, none, math.Float64frombits(0xfff0<<48 | 1)} {
		l = append(l, at(0, v), at(complex(v, 0), 0), at(complex(0, v), 0), at(complex(v, 1), 2), at(complex(most, v), most), at(complex(v, v), v), at(complex(v, 0), -1))
	}
	return append(l, at(complex(infinity, none), 1), at(complex(none, -infinity), 0))
}

// pair is a complex number of the library's fractions.
type pair struct{ re, im *big.Rat }

// worth: what a finite float is worth.
func worth(v float64) *big.Rat { return new(big.Rat).SetFloat64(v) }

// exact: what a finite number is worth.
func exact(z complex128) pair { return pair{worth(real(z)), worth(imag(z))} }

func add(x, y *big.Rat) *big.Rat { return new(big.Rat).Add(x, y) }
func sub(x, y *big.Rat) *big.Rat { return new(big.Rat).Sub(x, y) }
func mul(x, y *big.Rat) *big.Rat { return new(big.Rat).Mul(x, y) }
func neg(x *big.Rat) *big.Rat    { return new(big.Rat).Neg(x) }

func (z pair) plus(w pair) pair       { return pair{add(z.re, w.re), add(z.im, w.im)} }
func (z pair) less(w pair) pair       { return pair{sub(z.re, w.re), sub(z.im, w.im)} }
func (z pair) mirrored() pair         { return pair{z.re, neg(z.im)} }
func (z pair) scaled(x *big.Rat) pair { return pair{mul(z.re, x), mul(z.im, x)} }
func (z pair) norm() *big.Rat         { return add(mul(z.re, z.re), mul(z.im, z.im)) }
func (z pair) over(w pair) pair       { return z.times(w.mirrored()).scaled(new(big.Rat).Inv(w.norm())) }
func (z pair) String() string         { return z.re.RatString() + " " + z.im.RatString() + "i" }
func (z pair) number() api.Gauss      { return api.Gauss{Re: of(z.re), Im: of(z.im)} }
func (z pair) within(d api.Disc) bool { return z.against(d) <= 0 }
func (z pair) against(d api.Disc) int {
	return z.less(exact(d.C)).norm().Cmp(mul(worth(d.R), worth(d.R)))
}
func (z pair) times(w pair) pair {
	return pair{sub(mul(z.re, w.re), mul(z.im, w.im)), add(mul(z.re, w.im), mul(z.im, w.re))}
}

// of: a fraction of the library's as the program has it.
func of(x *big.Rat) api.Frac {
	f, errno := frac.Make(whole(x.Num()), whole(x.Denom()))
	if errno != api.OK {
		panic(errno)
	}
	return f
}

// whole: a whole number of the library's, likewise.
func whole(x *big.Int) api.Int {
	size := x.Bytes() // the highest one first
	n := api.Int{Neg: x.Sign() < 0, Mag: make([]uint32, (len(size)+3)/4)}
	for i := range size {
		n.Mag[i/4] |= uint32(size[len(size)-1-i]) << (i % 4 * 8)
	}
	return n
}

// power: 2^n, of either sign of n.
func power(n int) *big.Rat {
	x := new(big.Rat).SetInt(new(big.Int).Lsh(big.NewInt(1), uint(max(n, -n))))
	if n < 0 {
		x.Inv(x)
	}
	return x
}

// above: the least float that is not below a size.
func above(x *big.Rat) float64 {
	v, _ := x.Float64()
	if !math.IsInf(v, 1) && worth(v).Cmp(x) < 0 {
		v = math.Nextafter(v, infinity)
	}
	return v
}
