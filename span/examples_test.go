package span_test

import (
	"math/big"
	"testing"

	"polestar/api"
	"polestar/span"
)

// The chapter's table of examples, row by row.

func TestExamplesOfOf(t *testing.T) {
	for _, c := range []struct {
		x    *big.Rat
		want api.Span
		code api.Errno
	}{
		{big.NewRat(1, 2), to(0.5, 0.5), api.OK},
		{big.NewRat(1, 3), bits(0x3fd5555555555555, 0x3fd5555555555556), api.OK},
		{power(1024), api.Span{}, api.ErrInf},
	} {
		s, e := span.Of(of(c.x))
		is(t, "Of", s, e, c.want, c.code)
	}
	if a, b := span.Check(to(1, 0)), span.Check(to(minus0, 0)); a != api.ErrArg || b != api.OK {
		t.Errorf("Check: %v, %v", a, b)
	}
}

func TestExamplesOfTwos(t *testing.T) {
	a, b, one := to(1, 2), to(10, 20), to(1, 1)
	for _, c := range []struct {
		do         func(a, b api.Span) (api.Span, api.Errno)
		a, b, want api.Span
		code       api.Errno
	}{
		{span.Add, a, b, to(11, 22), api.OK},
		{span.Sub, a, b, to(-19, -8), api.OK},
		{span.Mul, a, b, to(10, 40), api.OK},
		{span.Quo, a, b, bits(0x3fa9999999999999, 0x3fc999999999999a), api.OK},
		{span.Mul, to(-1, 2), to(-3, 4), to(-6, 8), api.OK},
		{span.Quo, one, to(-1, 1), api.Span{}, api.ErrZero},
		{span.Quo, one, to(0, 1), api.Span{}, api.ErrZero},
		{span.Quo, one, to(-2, -1), to(-1, -0.5), api.OK},
		{span.Sub, to(0, 0), to(0, 0), to(0, 0), api.OK},
		{span.Mul, to(-1, -1), to(0, 0), to(0, 0), api.OK},
		{span.Add, to(most, most), to(most, most), api.Span{}, api.ErrInf},
	} {
		s, e := c.do(c.a, c.b)
		is(t, "of two", s, e, c.want, c.code)
	}
}

func TestExamplesOfRootsAndSquares(t *testing.T) {
	s, e := span.Square(to(-1, 2))
	is(t, "Square", s, e, to(0, 4), api.OK)
	s, e = span.Sqrt(to(-1, 4))
	is(t, "Sqrt", s, e, to(0, 2), api.OK)
	s, e = span.Sqrt(to(2, 2))
	is(t, "Sqrt", s, e, bits(0x3ff6a09e667f3bcc, 0x3ff6a09e667f3bcd), api.OK)
	s, e = span.Sqrt(to(-2, -1))
	is(t, "Sqrt", s, e, api.Span{}, api.ErrArg)
}

func TestExamplesOfHas(t *testing.T) {
	third, two := big.NewRat(1, 3), big.NewRat(2, 1)
	for _, c := range []struct {
		s    api.Span
		x    *big.Rat
		has  bool
		code api.Errno
	}{{to(0, 1), third, true, api.OK}, {to(0, 1), two, false, api.OK}, {to(1, 0), two, false, api.ErrArg}} {
		if has, e := span.Has(c.s, of(c.x)); has != c.has || e != c.code {
			t.Errorf("Has(%v, %v) = %v, %v", c.s, c.x, has, e)
		}
	}
}

func TestExamplesOfBoth(t *testing.T) {
	if !span.In(to(1, 2), to(0, 2)) || span.In(to(1, 2), to(1, 0)) {
		t.Error("In")
	}
	s, ok := span.Meet(to(0, 2), to(1, 3))
	if !ok || !same(s, to(1, 2)) {
		t.Errorf("Meet = %v, %v", s, ok)
	}
	s, ok = span.Meet(to(0, 1), to(2, 3))
	if ok || !same(s, api.Span{}) {
		t.Errorf("Meet = %v, %v", s, ok)
	}
	s, e := span.Join(to(0, 1), to(2, 3))
	is(t, "Join", s, e, to(0, 3), api.OK)
}
