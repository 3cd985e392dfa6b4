package gauss_test

import (
	"math/rand"
	"slices"
	"testing"

	"polestar/api"
	"polestar/frac"
	"polestar/gauss"
	"polestar/whole"
)

// sure: what a lower layer answers, of what it must not refuse.
func sure[T any](x T, e api.Errno) T {
	if e != api.OK {
		panic(e)
	}
	return x
}

func small(num, den int64) api.Frac    { return sure(frac.Of(num, den)) }
func add(x, y api.Frac) api.Frac       { return sure(frac.Add(x, y)) }
func sub(x, y api.Frac) api.Frac       { return sure(frac.Sub(x, y)) }
func mul(x, y api.Frac) api.Frac       { return sure(frac.Mul(x, y)) }
func quo(x, y api.Frac) api.Frac       { return sure(frac.Quo(x, y)) }
func minus(x api.Frac) api.Frac        { return sub(small(0, 1), x) }
func inverse(x api.Frac) api.Frac      { return quo(small(1, 1), x) }
func number(re, im api.Frac) api.Gauss { return api.Gauss{Re: re, Im: im} }
func parts(a, b, c, d int64) api.Gauss { return number(small(a, b), small(c, d)) }
func mirrored(z api.Gauss) api.Gauss   { return number(z.Re, minus(z.Im)) }
func norm(z api.Gauss) api.Frac        { return add(mul(z.Re, z.Re), mul(z.Im, z.Im)) }
func isNought(z api.Gauss) bool        { return frac.Sign(z.Re) == 0 && frac.Sign(z.Im) == 0 }
func scaled(z api.Gauss, x api.Frac) api.Gauss {
	return number(mul(z.Re, x), mul(z.Im, x))
}

// power: 2^n, and d more.
func power(n int, d int64) api.Frac {
	x := sure(whole.Shift(whole.Of(1), n))
	return sure(frac.Make(sure(whole.Add(x, whole.Of(d))), whole.Of(1)))
}

// The greatest fraction that may be, and a power of two of as many bits.
func most() api.Frac {
	half := power(32*api.MaxLimbs-1, -1)
	return add(add(half, half), small(1, 1))
}

func top() api.Frac { return power(32*api.MaxLimbs-1, 0) }

// same: are two the same, limb by limb? (No limbs are no limbs, nil or not.)
func same(x, y api.Gauss) bool { return sameFrac(x.Re, y.Re) && sameFrac(x.Im, y.Im) }

func sameFrac(x, y api.Frac) bool { return sameInt(x.Num, y.Num) && sameInt(x.Den, y.Den) }

func sameInt(x, y api.Int) bool { return x.Neg == y.Neg && slices.Equal(x.Mag, y.Mag) }

// told: a number for whoever reads of a test that failed, cut off if it is long.
func told(z api.Gauss) string {
	part := func(x api.Frac) string {
		s, e := frac.Text(x)
		if e != api.OK {
			s = "none"
		}
		return s[:min(len(s), 80)]
	}
	return "(" + part(z.Re) + ", " + part(z.Im) + ")"
}

// is: is an answer this number, in its one form, without an error?
func is(t *testing.T, what string, got api.Gauss, e api.Errno, want api.Gauss) {
	t.Helper()
	if e != api.OK || !same(got, want) {
		t.Fatalf("%s = %s, %v, not %s", what, told(got), e, told(want))
	}
}

// refused: is an answer this error, and the zero value?
func refused(t *testing.T, what string, got api.Gauss, e, want api.Errno) {
	t.Helper()
	if e != want || !same(got, api.Gauss{}) {
		t.Fatalf("%s = %s, %v, not error %v", what, told(got), e, want)
	}
}

// isFrac, refusedFrac: likewise of a fraction, as the real part of a number.
func isFrac(t *testing.T, what string, got api.Frac, e api.Errno, want api.Frac) {
	t.Helper()
	is(t, what, number(got, api.Frac{}), e, number(want, api.Frac{}))
}

func refusedFrac(t *testing.T, what string, got api.Frac, e, want api.Errno) {
	t.Helper()
	refused(t, what, number(got, api.Frac{}), e, want)
}

// wrongFracs: fractions that may not be, one for each cause.
func wrongFracs() []api.Frac {
	one := whole.Of(1)
	long := make([]uint32, api.MaxLimbs+1)
	long[api.MaxLimbs] = 1
	l := []api.Frac{{}}
	for _, c := range [][2]int64{{1, 0}, {0, 0}, {1, -1}, {0, -1}, {0, 2}, {2, 4}, {-6, 3}, {3, 3}} {
		l = append(l, api.Frac{Num: whole.Of(c[0]), Den: whole.Of(c[1])})
	}
	for _, x := range []api.Int{{Mag: []uint32{3, 0}}, {Mag: []uint32{0}}, {Neg: true}, {Mag: long}, {Neg: true, Mag: long}} {
		l = append(l, api.Frac{Num: x, Den: one}, api.Frac{Num: one, Den: x})
	}
	return l
}

// wrong: numbers that may not be: a fraction that may not be in either place, and in both.
func wrong() []api.Gauss {
	var l []api.Gauss
	for _, x := range wrongFracs() {
		l = append(l, number(x, small(0, 1)), number(small(0, 1), x), number(x, small(2, 3)), number(small(-1, 1), x), number(x, top()), number(most(), x), number(x, x))
	}
	return l
}

// edges: numbers about nought and one and borders of limbs, of all signs.
func edges() []api.Gauss {
	x := []api.Frac{
		small(0, 1), small(1, 1), small(-1, 1), small(1, 2), small(-3, 4), small(5, 1), small(-7, 1),
		power(32, -1), power(64, 0), minus(power(64, 1)), inverse(power(32, 0)), quo(power(96, -1), power(64, 1)),
	}
	var l []api.Gauss
	for _, re := range x {
		for _, im := range x {
			l = append(l, number(re, im))
		}
	}
	return l
}

// huge: numbers as large as may be.
func huge() []api.Gauss {
	nought, one := small(0, 1), small(1, 1)
	n, p := most(), top()
	return []api.Gauss{
		number(n, nought), number(nought, minus(n)), number(p, one), number(one, inverse(n)), number(inverse(p), minus(inverse(n))),
		number(n, p), number(quo(n, p), nought), number(quo(n, p), minus(quo(p, n))), number(minus(n), inverse(n)),
	}
}

// someInt: a whole number of up to so many bits, of both signs.
func someInt(r *rand.Rand, bits int) api.Int {
	x := api.Int{Mag: make([]uint32, (bits+31)/32)}
	for i := range x.Mag {
		x.Mag[i] = r.Uint32()
	}
	x.Mag[len(x.Mag)-1] |= 1 << 31
	x = sure(whole.Shift(x, r.Intn(bits)-32*len(x.Mag)))
	if r.Intn(2) == 0 {
		x = sure(whole.Sub(api.Int{}, x))
	}
	return x
}

// some: a fraction of numbers of up to so many bits.
func some(r *rand.Rand, bits int) api.Frac {
	den := someInt(r, bits)
	if whole.Sign(den) == 0 {
		den = whole.Of(1)
	}
	return sure(frac.Make(someInt(r, bits), den))
}

func someNumber(r *rand.Rand, bits int) api.Gauss { return number(some(r, bits), some(r, bits)) }

// pairs: pairs of edges, and of others, among them such as have much in common.
func pairs(ask func(x, y api.Gauss)) {
	l := edges()
	for i, x := range l {
		for j := i % 11; j < len(l); j += 11 {
			ask(x, l[j])
		}
		ask(x, x)
		ask(x, mirrored(x))
	}
	r := rand.New(rand.NewSource(31))
	for i := range 600 {
		x, y := someNumber(r, 10+i%300), someNumber(r, 10+i%300)
		ask(x, y)
		ask(x, mirrored(x))
		ask(x, scaled(x, y.Re))
		ask(x, number(y.Re, x.Im))
		ask(number(small(0, 1), x.Im), y)
		ask(x, number(y.Re, small(0, 1)))
	}
}

// two is a call of two numbers, and what its answer is by the parts.
type two struct {
	name string
	do   func(x, y api.Gauss) (api.Gauss, api.Errno)
	is   func(x, y api.Gauss) api.Gauss
}

func twos() []two {
	return []two{
		{"Add", gauss.Add, func(x, y api.Gauss) api.Gauss { return number(add(x.Re, y.Re), add(x.Im, y.Im)) }},
		{"Sub", gauss.Sub, func(x, y api.Gauss) api.Gauss { return number(sub(x.Re, y.Re), sub(x.Im, y.Im)) }},
		{"Mul", gauss.Mul, product},
		{"Quo", gauss.Quo, func(x, y api.Gauss) api.Gauss { return scaled(product(x, mirrored(y)), inverse(norm(y))) }},
	}
}

func product(x, y api.Gauss) api.Gauss {
	return number(sub(mul(x.Re, y.Re), mul(x.Im, y.Im)), add(mul(x.Re, y.Im), mul(x.Im, y.Re)))
}
