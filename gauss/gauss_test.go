package gauss_test

import (
	"testing"

	"polestar/api"
	"polestar/gauss"
	"polestar/large"
)

// P3.1
func TestOf(t *testing.T) {
	l := []int64{0, 1, -1, 2, -5, 1<<32 - 1, 1 << 32, -1 << 32, 1<<62 + 1, 1<<63 - 1, -1 << 63}
	for _, re := range l {
		for _, im := range l {
			is(t, "Of", gauss.Of(re, im), api.OK, parts(re, 1, im, 1))
		}
	}
}

// P3.1
func TestCheck(t *testing.T) {
	for i, z := range wrong() {
		if e := gauss.Check(z); e != api.ErrArg {
			t.Errorf("number %d that may not be: %v", i, e)
		}
	}
	for i, z := range append(edges(), huge()...) {
		if e := gauss.Check(z); e != api.OK {
			t.Errorf("number %d that may be: %v", i, e)
		}
	}
}

// P3.2: against the parts.
func TestTwos(t *testing.T) {
	pairs(func(x, y api.Gauss) {
		for _, c := range twos() {
			z, e := c.do(x, y)
			if c.name == "Quo" && isNought(y) {
				refused(t, "over 0", z, e, api.ErrZero)
				continue
			}
			is(t, c.name, z, e, c.is(x, y))
		}
	})
}

// P3.2: what may not be, on either side, ahead of nought and of what is too great on the other one.
func TestTwosWrong(t *testing.T) {
	for _, x := range wrong() {
		for _, y := range []api.Gauss{parts(0, 1, 0, 1), parts(-3, 2, 1, 1), number(most(), top()), {}} {
			for _, c := range twos() {
				z, e := c.do(x, y)
				refused(t, c.name, z, e, api.ErrArg)
				z, e = c.do(y, x)
				refused(t, c.name, z, e, api.ErrArg)
			}
		}
	}
}

// P3.2: divided by nought, whatever is.
func TestOverNought(t *testing.T) {
	nought := parts(0, 1, 0, 1)
	for _, x := range append(huge(), nought, parts(1, 1, 0, 1), parts(0, 1, 1, 3)) {
		z, e := gauss.Quo(x, nought)
		refused(t, "Quo", z, e, api.ErrZero)
	}
}

// P3.2, R2, R7: answers just within the limit, and beyond it, in either part; the way there is beyond it in many.
func TestLimits(t *testing.T) {
	nought, one, two := small(0, 1), small(1, 1), small(2, 1)
	n, p := most(), top()
	for _, c := range []struct {
		name string
		x, y api.Gauss
		want api.Gauss // the zero value: ErrLimit
	}{
		{"Add", number(sub(n, one), one), number(one, one), number(n, two)},
		{"Add", number(n, one), number(one, one), api.Gauss{}},
		{"Add", number(one, n), number(one, one), api.Gauss{}},
		{"Add", number(inverse(n), inverse(p)), number(one, inverse(n)), api.Gauss{}},
		{"Add", number(n, minus(n)), number(minus(n), n), number(nought, nought)},
		{"Sub", number(one, minus(n)), number(one, minus(one)), number(nought, add(minus(n), one))},
		{"Sub", number(one, minus(n)), number(one, one), api.Gauss{}},
		{"Sub", number(minus(n), one), number(one, one), api.Gauss{}},
		{"Mul", number(n, n), number(one, one), api.Gauss{}}, // 0 and 2 n
		{"Mul", number(n, n), number(one, minus(one)), api.Gauss{}},
		{"Mul", number(p, nought), number(one, one), number(p, p)},
		{"Mul", number(n, n), number(inverse(n), nought), number(one, one)},
		{"Mul", number(n, p), number(nought, inverse(n)), number(minus(quo(p, n)), one)},
		{"Mul", number(quo(n, p), nought), number(quo(p, n), one), number(one, quo(n, p))},
		{"Mul", number(n, one), number(one, minus(inverse(n))), api.Gauss{}}, // n + 1/n and 0
		{"Quo", number(n, p), number(n, p), number(one, nought)},
		{"Quo", number(n, minus(quo(p, n))), number(quo(p, n), n), number(nought, minus(one))},
		{"Quo", number(n, n), number(nought, n), number(one, minus(one))},
		{"Quo", number(one, nought), number(p, p), api.Gauss{}}, // a half of 1/p
		{"Quo", number(two, nought), number(p, p), number(inverse(p), minus(inverse(p)))},
		{"Quo", number(one, nought), number(nought, n), number(nought, minus(inverse(n)))},
		{"Quo", number(p, nought), number(one, one), number(quo(p, two), minus(quo(p, two)))},
		{"Quo", number(n, one), number(one, n), api.Gauss{}},
	} {
		for _, d := range twos() {
			if d.name != c.name {
				continue
			}
			z, e := d.do(c.x, c.y)
			if same(c.want, api.Gauss{}) {
				refused(t, c.name, z, e, api.ErrLimit)
			} else {
				is(t, c.name, z, e, c.want)
			}
		}
	}
}

// P3.3
func TestConjNorm(t *testing.T) {
	ask := func(z api.Gauss) {
		t.Helper()
		c, e := gauss.Conj(z)
		is(t, "Conj", c, e, mirrored(z))
		n, e := gauss.Norm(z)
		isFrac(t, "Norm", n, e, norm(z))
	}
	pairs(func(x, y api.Gauss) { ask(y) })
	for _, z := range huge() {
		c, e := gauss.Conj(z)
		is(t, "Conj", c, e, mirrored(z))
		n, e := gauss.Norm(z)
		refusedFrac(t, "Norm", n, e, api.ErrLimit)
	}
	for _, z := range wrong() {
		c, e := gauss.Conj(z)
		refused(t, "Conj", c, e, api.ErrArg)
		n, e := gauss.Norm(z)
		refusedFrac(t, "Norm", n, e, api.ErrArg)
	}
}

// P3.3: at the limit, and with the way there beyond it.
func TestNormLimits(t *testing.T) {
	const half = 16 * api.MaxLimbs
	nought := small(0, 1)
	root := power(half, -1)
	last := sub(mul(root, root), nought) // 2^(2 half) less 2^(half + 1), and 1
	for _, c := range []struct {
		z    api.Gauss
		want api.Frac // the zero value: ErrLimit
	}{
		{number(root, nought), last},
		{number(nought, minus(inverse(root))), inverse(last)},
		{number(root, small(1, 1)), add(last, small(1, 1))},
		{number(power(half, 0), nought), api.Frac{}},
		{number(nought, power(half, 0)), api.Frac{}},
		{number(inverse(power(half, 0)), nought), api.Frac{}},
		{number(root, root), api.Frac{}},
		{number(power(half-1, 0), power(half-1, 0)), power(2*half-1, 0)},
		{sure(gauss.Unit(power(30000, 0))), small(1, 1)}, // its squares have 60000 bits more than may be
		{scaled(sure(gauss.Unit(power(30000, 1))), small(3, 2)), small(9, 4)},
	} {
		n, e := gauss.Norm(c.z)
		if sameFrac(c.want, api.Frac{}) {
			refusedFrac(t, "Norm", n, e, api.ErrLimit)
		} else {
			isFrac(t, "Norm", n, e, c.want)
		}
	}
}

// unit: what Unit answers, by fractions without a limit.
func unit(x api.Frac) (api.Gauss, api.Errno) {
	one, t := large.FromFrac(small(1, 1)), large.FromFrac(x)
	square := t.Mul(t)
	below := one.Add(square)
	return large.Gauss{Re: one.Sub(square).Quo(below), Im: t.Add(t).Quo(below)}.Fit()
}

// P3.4
func TestUnit(t *testing.T) {
	for _, z := range edges() {
		for _, x := range []api.Frac{z.Re, quo(z.Re, small(7, 1)), quo(small(3, 1), add(small(1, 9), mul(z.Im, z.Im)))} {
			u, e := gauss.Unit(x)
			is(t, "Unit", u, e, sure(unit(x)))
		}
	}
	for _, x := range wrongFracs() {
		u, e := gauss.Unit(x)
		refused(t, "Unit", u, e, api.ErrArg)
	}
}

// P3.4, R2: at the limit. Of odd numbers over odd ones all is even, and in lowest terms half as great.
func TestUnitLimits(t *testing.T) {
	const half = 16 * api.MaxLimbs
	for i, c := range []struct {
		x  api.Frac
		ok bool
	}{
		{power(half-1, 0), true},
		{minus(power(half-1, 0)), true},
		{inverse(power(half-1, 0)), true},
		{power(half, -2), true},
		{power(half, 0), false},
		{minus(inverse(power(half, 0))), false},
		{power(half, -1), true},
		{power(half, 1), true},
		{minus(inverse(power(half, 1))), true},
		{quo(power(half, -1), power(half, 1)), false},
		{quo(power(half, -3), power(half-1, 1)), true},
		{quo(power(half, -1), power(half, -2)), false},
		{quo(power(half, -1), power(half, -3)), true},
		{most(), false},
		{quo(most(), top()), false},
	} {
		u, e := gauss.Unit(c.x)
		want, f := unit(c.x)
		if (f == api.OK) != c.ok {
			t.Fatalf("%d: the test is wrong: %v", i, f)
		}
		if c.ok {
			is(t, "Unit", u, e, want)
		} else {
			refused(t, "Unit", u, e, api.ErrLimit)
		}
	}
}
