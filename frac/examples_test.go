package frac_test

import (
	"math"
	"math/big"
	"testing"

	"polestar/api"
	"polestar/frac"
	"polestar/whole"
)

// The chapter's table of examples, row by row.

func TestExamplesOfMake(t *testing.T) {
	x, e := frac.Make(whole.Of(6), whole.Of(-4))
	fits(t, "Make(6, -4)", x, e, big.NewRat(-3, 2))
	x, e = frac.Of(6, -4)
	fits(t, "Of(6, -4)", x, e, big.NewRat(-3, 2))
	x, e = frac.Make(whole.Of(0), whole.Of(5))
	fits(t, "Make(0, 5)", x, e, new(big.Rat))
	x, e = frac.Make(whole.Of(1), whole.Of(0))
	refused(t, "Make(1, 0)", x, e, api.ErrZero)
	x, e = frac.Make(api.Int{Mag: []uint32{1, 0}}, whole.Of(1))
	refused(t, "Make of a last limb 0", x, e, api.ErrArg)
	x, e = frac.Of(-9223372036854775808, -1)
	fits(t, "Of(-2^63, -1)", x, e, over(power(63, 0), big.NewInt(1)))
	for i, c := range []struct {
		x api.Frac
		e api.Errno
	}{
		{api.Frac{Num: whole.Of(2), Den: whole.Of(4)}, api.ErrArg},
		{api.Frac{}, api.ErrArg},
		{api.Frac{Num: whole.Of(0), Den: whole.Of(2)}, api.ErrArg},
		{api.Frac{Num: whole.Of(0), Den: whole.Of(1)}, api.OK},
	} {
		if e := frac.Check(c.x); e != c.e {
			t.Errorf("%d: Check = %v", i, e)
		}
	}
}

func TestExamplesOfSums(t *testing.T) {
	x, e := frac.Add(small(1, 2), small(1, 3))
	fits(t, "1/2 + 1/3", x, e, big.NewRat(5, 6))
	x, e = frac.Sub(small(1, 2), small(1, 2))
	fits(t, "1/2 - 1/2", x, e, new(big.Rat))
	x, e = frac.Mul(small(2, 3), small(3, 2))
	fits(t, "2/3 times 3/2", x, e, big.NewRat(1, 1))
	x, e = frac.Quo(small(1, 2), small(0, 1))
	refused(t, "1/2 over 0", x, e, api.ErrZero)
	if c, s, none := frac.Cmp(small(1, 3), small(1, 2)), frac.Sign(small(-1, 2)), frac.Sign(api.Frac{}); c != -1 || s != -1 || none != 0 {
		t.Errorf("Cmp(1/3, 1/2) = %d, Sign(-1/2) = %d, Sign of the zero value %d", c, s, none)
	}
	for i, c := range []struct {
		x, r api.Frac
		ok   bool
		e    api.Errno
	}{
		{small(9, 4), small(3, 2), true, api.OK},
		{small(2, 1), api.Frac{}, false, api.OK},
		{small(0, 1), small(0, 1), true, api.OK},
		{small(-1, 1), api.Frac{}, false, api.ErrArg},
	} {
		if r, ok, e := frac.Root(c.x); !same(r, c.r) || ok != c.ok || e != c.e {
			t.Errorf("%d: Root = %v, %v, %v", i, r, ok, e)
		}
	}
}

func TestExamplesOfFloats(t *testing.T) {
	x, e := frac.FromFloat(0.1)
	fits(t, "FromFloat(0.1)", x, e, big.NewRat(3602879701896397, 36028797018963968))
	x, e = frac.FromFloat(math.Copysign(0, -1))
	fits(t, "FromFloat(-0)", x, e, new(big.Rat))
	x, e = frac.FromFloat(math.Inf(1))
	refused(t, "FromFloat(+Inf)", x, e, api.ErrInf)
	one := big.NewInt(1)
	for i, c := range []struct {
		x    *big.Rat
		bits uint64
		e    api.Errno
	}{
		{big.NewRat(1, 3), 0x3fd5555555555555, api.OK},
		{over(one, power(1075, 0)), 0, api.OK},
		{over(big.NewInt(3), power(1075, 0)), 2, api.OK},
		{over(new(big.Int).Sub(power(1024, 0), power(970, 0)), one), 0, api.ErrInf},
	} {
		if v, e := frac.Float(of(c.x)); math.Float64bits(v) != c.bits || e != c.e {
			t.Errorf("%d: Float = %v, %v", i, v, e)
		}
	}
}

func TestExamplesOfTexts(t *testing.T) {
	for text, x := range map[string]api.Frac{"-3/4": small(-3, 4), "5": small(5, 1), "0": small(0, 1)} {
		if s, e := frac.Text(x); s != text || e != api.OK {
			t.Errorf("Text of %s = %s, %v", text, s, e)
		}
		y, e := frac.Parse(text)
		fits(t, "Parse of "+text, y, e, worth(x))
	}
	for _, s := range []string{"6/4", "3/1", "-0", "1/-2", " 1", ""} {
		x, e := frac.Parse(s)
		refused(t, "Parse of "+s, x, e, api.ErrForm)
	}
}
