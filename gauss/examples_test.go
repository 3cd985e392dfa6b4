package gauss_test

import (
	"math"
	"testing"

	"polestar/api"
	"polestar/gauss"
)

// The chapter's table of examples, row by row.

func TestExamplesOfReckoning(t *testing.T) {
	z, e := gauss.Mul(gauss.Of(3, -4), gauss.Of(1, 2))
	is(t, "3-4i times 1+2i", z, e, parts(11, 1, 2, 1))
	n, e := gauss.Norm(gauss.Of(3, -4))
	isFrac(t, "Norm of 3-4i", n, e, small(25, 1))
	z, e = gauss.Quo(gauss.Of(1, 1), gauss.Of(0, 1))
	is(t, "1+i over i", z, e, parts(1, 1, -1, 1))
	z, e = gauss.Quo(gauss.Of(1, 1), gauss.Of(0, 0))
	refused(t, "1+i over 0", z, e, api.ErrZero)
}

func TestExamplesOfUnit(t *testing.T) {
	for _, c := range []struct {
		t    api.Frac
		want api.Gauss
	}{
		{small(0, 1), parts(1, 1, 0, 1)},
		{small(1, 1), parts(0, 1, 1, 1)},
		{small(1, 2), parts(3, 5, 4, 5)},
		{small(-3, 1), parts(-4, 5, -3, 5)},
	} {
		z, e := gauss.Unit(c.t)
		is(t, "Unit", z, e, c.want)
	}
}

func TestExamplesOfText(t *testing.T) {
	for _, c := range []struct {
		z    api.Gauss
		want string
	}{
		{gauss.Of(0, 0), "0"}, {gauss.Of(0, 1), "i"}, {gauss.Of(0, -1), "-i"},
		{gauss.Of(-2, 0), "-2"}, {gauss.Of(1, -1), "1-i"}, {gauss.Of(0, 2), "2i"},
		{parts(1, 2, -3, 4), "1/2-3/4i"}, {parts(0, 1, 3, 4), "3/4i"},
	} {
		if s, e := gauss.Text(c.z); s != c.want || e != api.OK {
			t.Errorf("Text of %s = %s, %v", c.want, s, e)
		}
	}
}

func TestExamplesOfParse(t *testing.T) {
	for _, c := range []struct {
		s    string
		want api.Gauss
	}{{"i", parts(0, 1, 1, 1)}, {"1+i", parts(1, 1, 1, 1)}, {"1/2-3/4i", parts(1, 2, -3, 4)}, {"0", parts(0, 1, 0, 1)}} {
		z, e := gauss.Parse(c.s)
		is(t, "Parse of "+c.s, z, e, c.want)
	}
	for _, s := range []string{"1i", "0+i", "1+0i", "i+1", "1+-i", "2/4i", "+i", ""} {
		z, e := gauss.Parse(s)
		refused(t, "Parse of "+s, z, e, api.ErrForm)
	}
}

func TestExamplesOfFloats(t *testing.T) {
	z, e := gauss.FromComplex(complex(0.5, -0.25))
	is(t, "FromComplex", z, e, parts(1, 2, -1, 4))
	z, e = gauss.FromComplex(complex(0.5, math.Inf(-1)))
	refused(t, "FromComplex of what is infinite", z, e, api.ErrInf)
	if v, e := gauss.Complex(parts(1, 2, -3, 1)); v != complex(0.5, -3) || e != api.OK {
		t.Errorf("Complex of 1/2-3i = %v, %v", v, e)
	}
	if v, e := gauss.Complex(number(power(1024, 0), small(0, 1))); v != 0 || e != api.ErrInf {
		t.Errorf("Complex of 2^1024 = %v, %v", v, e)
	}
}

func TestExamplesOfWrong(t *testing.T) {
	if e := gauss.Check(api.Gauss{}); e != api.ErrArg {
		t.Errorf("Check of the zero value: %v", e)
	}
	z, e := gauss.Add(api.Gauss{}, gauss.Of(1, 0))
	refused(t, "the zero value + 1", z, e, api.ErrArg)
}
