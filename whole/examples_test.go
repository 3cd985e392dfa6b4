package whole_test

import (
	"math/big"
	"strings"
	"testing"

	"polestar/api"
	"polestar/whole"
)

// The chapter's table of examples, row by row. T is 2^65536.

func TestExamplesOfNumbers(t *testing.T) {
	for n, want := range map[int64]api.Int{
		-5:       {Neg: true, Mag: []uint32{5}},
		-1 << 63: {Neg: true, Mag: []uint32{0, 2147483648}},
		0:        {},
	} {
		if x := whole.Of(n); !same(x, want) {
			t.Errorf("Of(%d) = %v", n, x)
		}
	}
	for i, c := range []struct {
		x api.Int
		e api.Errno
	}{
		{api.Int{Mag: []uint32{1, 0}}, api.ErrArg},
		{api.Int{Neg: true}, api.ErrArg},
		{top(2048), api.OK},
		{top(2049), api.ErrArg},
	} {
		if e := whole.Check(c.x); e != c.e {
			t.Errorf("%d: Check = %v", i, e)
		}
	}
	for i, c := range []struct {
		x  api.Int
		n  int64
		ok bool
	}{
		{of(big2(63, -1)), 1<<63 - 1, true},
		{of(big2(63, 0)), 0, false},
		{minus(of(big2(63, 0))), -1 << 63, true},
		{api.Int{Mag: []uint32{0}}, 0, false},
	} {
		if n, ok := whole.Int64(c.x); n != c.n || ok != c.ok {
			t.Errorf("%d: Int64 = %d, %v", i, n, ok)
		}
	}
	five, three := whole.Of(-5), whole.Of(3)
	if whole.Sign(five) != -1 || whole.Bits(five) != 3 || whole.Bits(whole.Of(0)) != 0 {
		t.Error("Sign(-5), Bits(-5), Bits(0)")
	}
	if whole.Cmp(five, three) != -1 || whole.Cmp(api.Int{Mag: []uint32{0}}, three) != 0 {
		t.Error("Cmp(-5, 3), Cmp({limbs 0}, 3)")
	}
}

func TestExamplesOfSums(t *testing.T) {
	s, e := whole.Add(of(big2(64, -1)), whole.Of(1))
	fits(t, "Add(2^64 - 1, 1)", s, e, big2(64, 0))
	s, e = whole.Sub(whole.Of(3), whole.Of(3))
	fits(t, "Sub(3, 3)", s, e, new(big.Int))
	s, e = whole.Mul(whole.Of(-1<<32), whole.Of(1<<32))
	fits(t, "Mul(-2^32, 2^32)", s, e, new(big.Int).Neg(big2(64, 0)))
	s, e = whole.Add(of(big2(65536, -1)), whole.Of(1))
	refused(t, "Add(T - 1, 1)", s, e, api.ErrLimit)
	s, e = whole.Mul(of(big2(65535, 0)), whole.Of(2))
	refused(t, "Mul(T/2, 2)", s, e, api.ErrLimit)
	s, e = whole.Sub(minus(of(big2(65536, -1))), whole.Of(1))
	refused(t, "Sub(1 - T, 1)", s, e, api.ErrLimit)
}

func TestExamplesOfParts(t *testing.T) {
	for _, c := range []struct{ x, y, q, r int64 }{{-7, 2, -3, -1}, {7, -2, -3, 1}} {
		q, r, e := whole.QuoRem(whole.Of(c.x), whole.Of(c.y))
		fits(t, "quotient", q, e, big.NewInt(c.q))
		fits(t, "rest", r, e, big.NewInt(c.r))
	}
	q, r, e := whole.QuoRem(whole.Of(7), whole.Of(0))
	refused(t, "quotient of 7 and 0", q, e, api.ErrZero)
	refused(t, "rest of 7 and 0", r, e, api.ErrZero)
	for _, c := range []struct{ x, y, g int64 }{{-12, 18, 6}, {0, -4, 4}, {0, 0, 0}} {
		g, e := whole.GCD(whole.Of(c.x), whole.Of(c.y))
		fits(t, "GCD", g, e, big.NewInt(c.g))
	}
	for i, c := range []struct {
		x, r   api.Int
		square bool
		e      api.Errno
	}{
		{whole.Of(24), whole.Of(4), false, api.OK},
		{whole.Of(25), whole.Of(5), true, api.OK},
		{whole.Of(-1), api.Int{}, false, api.ErrArg},
		{of(big2(128, -1)), of(big2(64, -1)), false, api.OK},
	} {
		if r, square, e := whole.Root(c.x); !same(r, c.r) || square != c.square || e != c.e {
			t.Errorf("%d: Root = %v, %v, %v", i, r, square, e)
		}
	}
	for i, c := range []struct {
		x int64
		n int
		y api.Int
		e api.Errno
	}{
		{-5, -1, whole.Of(-3), api.OK},
		{5, -1, whole.Of(2), api.OK},
		{1, 65536, api.Int{}, api.ErrLimit},
		{0, 1 << 62, api.Int{}, api.OK},
		{-1, -1 << 63, whole.Of(-1), api.OK},
		{3, 40, whole.Of(3 << 40), api.OK},
	} {
		if y, e := whole.Shift(whole.Of(c.x), c.n); !same(y, c.y) || e != c.e {
			t.Errorf("%d: Shift = %v, %v", i, y, e)
		}
	}
}

func TestExamplesOfTexts(t *testing.T) {
	const text = "-18446744073709551616"
	x := minus(of(big2(64, 0)))
	if s, e := whole.Text(x); s != text || e != api.OK {
		t.Errorf("Text(-2^64) = %s, %v", s, e)
	}
	y, e := whole.Parse(text)
	fits(t, "Parse", y, e, worth(x))
	for _, s := range []string{"", "-0", "01", "+1", "1 "} {
		y, e := whole.Parse(s)
		refused(t, "Parse of "+s, y, e, api.ErrForm)
	}
	for _, n := range []int{65537, 19729} {
		y, e := whole.Parse(strings.Repeat("9", n))
		refused(t, "Parse of many digits", y, e, api.ErrLimit)
	}
}
