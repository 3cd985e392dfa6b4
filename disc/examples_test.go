package disc_test

import (
	"math"
	"math/big"
	"testing"

	"polestar/api"
	"polestar/disc"
	"polestar/gauss"
)

// The chapter's table of examples, row by row.

func TestExamplesOfCheck(t *testing.T) {
	for _, d := range []api.Disc{at(0, -tiny), at(0, none), at(complex(infinity, 0), 0)} {
		if e := disc.Check(d); e != api.ErrArg {
			t.Errorf("Check(%s) = %v", tell(d), e)
		}
	}
}

func TestExamplesOfOf(t *testing.T) {
	d, e := disc.Of(pair{big.NewRat(1, 2), big.NewRat(-3, 1)}.number())
	is(t, "Of(1/2 - 3 i)", d, e, at(0.5-3i, 0), api.OK)
	d, e = disc.Of(pair{big.NewRat(1, 3), new(big.Rat)}.number())
	if e != api.OK || d.C != complex(math.Float64frombits(0x3fd5555555555555), 0) || d.R < 0x1p-56 || d.R > 0x1p-55 {
		t.Errorf("Of(1/3) = %s, %v", tell(d), e)
	}
	d, e = disc.Of(pair{power(1024), new(big.Rat)}.number())
	is(t, "Of(2^1024)", d, e, api.Disc{}, api.ErrInf)
}

func TestExamplesOfTwos(t *testing.T) {
	for _, c := range []struct {
		what string
		do   func(a, b api.Disc) (api.Disc, api.Errno)
		a, b api.Disc
		want api.Disc
		code api.Errno
	}{
		{"Add", disc.Add, at(1, 0), at(2, 0), at(3, 0), api.OK},
		{"Add", disc.Add, at(1, 0.5), at(1i, 0.25), at(1+1i, 0.75), api.OK},
		{"Add", disc.Add, at(1, 0), at(eps/4, 0), at(1, eps/4), api.OK},
		{"Mul", disc.Mul, at(2, 0), at(3i, 0), at(6i, 0), api.OK},
		{"Mul", disc.Mul, at(1, 1), at(2, 1), at(2, 4), api.OK},
		{"Mul", disc.Mul, at(most, 0), at(2, 0), api.Disc{}, api.ErrInf},
		{"Add", disc.Add, at(0, most), at(0, most), api.Disc{}, api.ErrInf},
		{"Quo", disc.Quo, at(1, 0), at(2i, 0), at(-0.5i, 0), api.OK},
		{"Quo", disc.Quo, at(1, 0), at(1, 1), api.Disc{}, api.ErrZero},
		{"Quo", disc.Quo, at(1, 0), at(2, 1), at(0.5, 0.5), api.OK},
	} {
		d, e := c.do(c.a, c.b)
		if !same(api.Disc{C: c.want.C + 0, R: c.want.R}, d) || e != c.code {
			t.Errorf("%s of %s and %s = %s, %v", c.what, tell(c.a), tell(c.b), tell(d), e)
		}
	}
}

func TestExamplesOfOnes(t *testing.T) {
	d, e := disc.Conj(at(1+2i, 3))
	is(t, "Conj", d, e, at(1-2i, 3), api.OK)
	for _, c := range []struct {
		a    api.Disc
		want api.Span
		code api.Errno
	}{
		{at(3-4i, 1), api.Span{Lo: 4, Hi: 6}, api.OK}, {at(1, 2), api.Span{Lo: 0, Hi: 3}, api.OK}, {at(most, most), api.Span{}, api.ErrInf},
	} {
		if s, e := disc.Abs(c.a); s != c.want || e != c.code {
			t.Errorf("Abs(%s) = %v, %v", tell(c.a), s, e)
		}
	}
}

func TestExamplesOfQuestions(t *testing.T) {
	for _, c := range []struct {
		d    api.Disc
		z    api.Gauss
		want bool
	}{
		{at(0, 5), gauss.Of(3, 4), true}, {at(0, 5), pair{big.NewRat(5, 1), big.NewRat(1, 1000)}.number(), false}, {at(0, 0), gauss.Of(0, 0), true},
	} {
		if has, e := disc.Has(c.d, c.z); has != c.want || e != api.OK {
			t.Errorf("Has(%s) = %v, %v", tell(c.d), has, e)
		}
	}
	for _, c := range []struct {
		what string
		do   func(a, b api.Disc) (bool, api.Errno)
		a, b api.Disc
		want bool
	}{
		{"In", disc.In, at(1, 1), at(0, 2), false}, {"In", disc.In, at(1, 0.5), at(0, 2), true},
		{"Apart", disc.Apart, at(0, 1), at(2, 1), false}, {"Apart", disc.Apart, at(0, 1), at(2.5, 1), true},
	} {
		if yes, e := c.do(c.a, c.b); yes != c.want || e != api.OK {
			t.Errorf("%s of %s and %s = %v, %v", c.what, tell(c.a), tell(c.b), yes, e)
		}
	}
}
