package image_test

import (
	"math/big"
	"testing"

	"polestar/api"
	"polestar/ray"
)

const half = 16 * api.MaxLimbs // bits of half the limit

// asked: is an answer what is wanted, and is that the one that the limit asks for?
func asked(t *testing.T, what string, got []api.Frac, e api.Errno, want rats, limit api.Errno) {
	t.Helper()
	fits(t, what, got, e, want)
	if e != limit {
		t.Fatalf("%s = %s, %v, not %v", what, told(got...), e, limit)
	}
}

// may: the matrix of these, which may be.
func may(t *testing.T, l rats) api.Matrix {
	t.Helper()
	m := made(l)
	if e := ray.Check(m); e != api.OK {
		t.Fatalf("Check of %s = %v", toldMatrix(m), e)
	}
	return m
}

// edge is two fractions whose sum, or product, is the greatest number or fraction that may be, or the least one beyond.
type edge struct {
	x, y *big.Rat
	e    api.Errno
}

func sums() []edge {
	few := inverse(two(2*half-2, 0))
	return []edge{
		{plus(most(), rat(-1)), rat(1), api.OK},
		{most(), rat(1), api.ErrLimit},
		{rat(-1), minus(most()), api.ErrLimit},
		{few, big.NewRat(1, 3), api.OK},
		{few, big.NewRat(1, 5), api.ErrLimit}, // by the denominator alone
	}
}

func products() []edge {
	return []edge{
		{rat(2), two(2*half-1, -1), api.OK},
		{two(half, -1), two(half, 1), api.OK},
		{two(half, 0), two(half, 0), api.ErrLimit},
		{minus(two(half, 0)), two(half, 0), api.ErrLimit},
	}
}

// P11.1: what is told of a power at the limit.
func TestLimitOfPower(t *testing.T) {
	for _, x := range (rats{most(), minus(most()), inverse(most()), inverse(minus(most()))}) {
		got, e := power(may(t, rats{rat(1), rat(0), x, rat(1)}), api.Frac{})
		is(t, "Power", got, e, minus(x))
	}
}

// P11.2, R2: one of both planes lies beyond the limit, the other one does not: with A -1 and C 2 / n the first is at -(n + B), the second at n.
func TestLimitOfPlanes(t *testing.T) {
	n := two(2*half-1, 0)
	few := inverse(two(2*half-2, 0))
	for _, c := range []edge{
		{n, plus(n, rat(-1)), api.OK}, {n, n, api.ErrLimit}, {minus(n), less(rat(1), n), api.OK}, {minus(n), minus(n), api.ErrLimit},
		{few, big.NewRat(1, 3), api.OK}, {few, big.NewRat(1, 5), api.ErrLimit}, // by the denominator alone
	} {
		power := over(rat(2), c.x)
		l := rats{rat(-1), c.y, power, minus(plus(rat(1), times(power, c.y)))}
		got, e := planes(may(t, l), api.Frac{})
		asked(t, "Planes, the first one at the limit", got, e, rats{minus(plus(c.x, c.y)), c.x}, c.e)
		l[0], l[3] = l[3], l[0]
		got, e = planes(may(t, l), api.Frac{})
		asked(t, "Planes, the second one at the limit", got, e, rats{minus(c.x), plus(c.x, c.y)}, c.e)
	}
}

// P11.3, R2: the image lies beyond the limit, and is as great as the thing.
func TestLimitOfBehind(t *testing.T) {
	for _, c := range sums() {
		got, e := imaged(may(t, rats{rat(1), c.x, rat(0), rat(1)}), of(c.y))
		asked(t, "Image, at the limit", got, e, rats{minus(plus(c.x, c.y)), rat(1)}, c.e)
	}
	for _, c := range products() {
		got, e := imaged(may(t, rats{c.x, rat(0), rat(0), inverse(c.x)}), of(over(c.y, c.x))) // behind: that times the square of x
		asked(t, "Image, at the limit", got, e, rats{minus(times(c.x, c.y)), c.x}, c.e)
	}
}

// P11.3, R2: the image is greater than the limit, or smaller, and lies within it.
func TestLimitOfTimes(t *testing.T) {
	for _, c := range products() {
		a := minus(most())
		if c.x.Sign() > 0 {
			a = most()
		}
		m := may(t, rats{a, minus(c.x), inverse(c.x), rat(0)}) // with the thing 1 / y ahead C times ahead and D are 1 / (x y)
		got, e := imaged(m, of(inverse(c.y)))
		product := times(c.x, c.y)
		asked(t, "Image, so great", got, e, rats{times(c.x, less(product, a)), product}, c.e)
	}
	for _, c := range []edge{{x: two(half, -1), e: api.OK}, {x: two(half, 0), e: api.ErrLimit}} {
		p, q := c.x, plus(c.x, rat(1))
		m := may(t, rats{inverse(p), inverse(p), rat(1), q})
		got, e := imaged(m, of(plus(times(p, p), rat(-1))))
		asked(t, "Image, so small", got, e, rats{minus(inverse(q)), inverse(times(p, q))}, c.e)
	}
}

// P11.5, R2: a steepness at the limit.
func TestLimitOfStop(t *testing.T) {
	for _, c := range products() {
		for _, b := range (rats{inverse(c.x), minus(inverse(c.x))}) {
			m := may(t, rats{rat(1), b, rat(0), rat(1)})
			got, e := stop(m, of(c.y))
			asked(t, "Stop, at the limit", got, e, rats{times(size(c.x), c.y)}, c.e)
			m = may(t, rats{rat(1), inverse(b), rat(0), rat(1)})
			got, e = stop(m, of(inverse(c.y)))
			asked(t, "Stop, at the limit", got, e, rats{inverse(times(size(c.x), c.y))}, c.e)
		}
	}
}

// R7: what stands on the way is beyond the limit, the answer is not.
func TestNoLimitOnTheWay(t *testing.T) {
	p, q, n := most(), plus(most(), rat(-2)), two(2*half-1, 0)
	thick := rats{rat(1), rat(-2), n, minus(most())} // D - 1 is beyond
	got, e := planes(may(t, thick), api.Frac{})
	is(t, "Planes", got, e, rat(-2), rat(0))
	thick[0], thick[3] = thick[3], thick[0]
	got, e = planes(may(t, thick), api.Frac{})
	is(t, "Planes", got, e, rat(0), rat(2))
	m := may(t, rats{less(rat(1), over(p, q)), minus(inverse(p)), p, rat(0)}) // A times ahead has the denominator p q
	got, e = imaged(m, of(inverse(p)))
	is(t, "Image", got, e, inverse(q), rat(1))
	m = may(t, rats{rat(0), rat(-1), rat(1), minus(plus(p, rat(-1)))}) // C times ahead and D are 1 - 2 n, both of them great
	got, e = imaged(m, of(plus(p, rat(-2))))
	is(t, "Image", got, e, rat(-1), rat(-1))
	got, e = imaged(may(t, worths(steep())), num("-1"))
	is(t, "Image", got, e, rat(-1), rat(-1))
	m = may(t, rats{rat(1), minus(over(p, n)), rat(0), rat(1)})
	got, e = stop(m, of(over(p, n)))
	is(t, "Stop", got, e, rat(1))
}
