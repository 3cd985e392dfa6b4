package frac_test

import (
	"math/big"
	"math/rand"
	"strings"
	"testing"

	"polestar/api"
	"polestar/frac"
)

// P2.6, P2.7: Text against the library, and back.
func TestText(t *testing.T) {
	l := append(edges(), huge()...)
	r := rand.New(rand.NewSource(28))
	for i := range 1000 {
		l = append(l, some(r, 5+i%400))
	}
	for _, x := range l {
		s, e := frac.Text(x)
		if want := worth(x).RatString(); s != want || e != api.OK {
			t.Fatalf("Text(%v) = %s, %v", want, s, e)
		}
		y, e := frac.Parse(s)
		fits(t, "Parse", y, e, worth(x))
		if again, e := frac.Text(y); again != s || e != api.OK {
			t.Fatalf("Text of Parse of %s = %s, %v", s, again, e)
		}
	}
	for i, x := range wrong() {
		if s, e := frac.Text(x); s != "" || e != api.ErrArg {
			t.Errorf("fraction %d that may not be: %s, %v", i, s, e)
		}
	}
}

// P2.6: what Parse takes stands in lowest terms; all else is no text of a fraction.
func TestParse(t *testing.T) {
	r := rand.New(rand.NewSource(29))
	for range 3000 {
		num, den := sized(r, 12), sized(r, 12)
		s := num.String() + "/" + den.String()
		x, e := frac.Parse(s)
		if den.Sign() > 0 && over(num, den).RatString() == s {
			fits(t, "Parse of "+s, x, e, over(num, den))
		} else {
			refused(t, "Parse of "+s, x, e, api.ErrForm)
		}
	}
}

func TestParseWrong(t *testing.T) {
	for _, s := range []string{
		"-", "/", "1/", "/2", "-/2", "1/-", "-0", "-0/1", "0/1", "0/2", "0/0", "1/0", "-1/0", "1/1", "-1/1", "2/2", "-6/4", "10/15",
		"00", "01", "01/2", "1/02", "1/00", "-01/2", "+1", "+1/2", "1/+2", "--1/2", "1/--2", "-1/-2", "1//2", "1/2/3", "1/2/", "/1/2", "//",
		" 1/2", "1/2 ", "1 /2", "1/ 2", "1/2\n", "\t1", "1\x00", "1/2\x00", "0.5", "1/2.0", "1e2", "1e2/3", "0x1/2", "1_0", "1/1_1", "a", "1/a", "a/2",
		"1:2", "1\\2", "\u0661/2", "1/\uff12", "1\u20442", "\u00bd", "i", "1/2i", "Inf", "NaN",
	} {
		x, e := frac.Parse(s)
		refused(t, "Parse of "+s, x, e, api.ErrForm)
	}
}

// P2.6: the errors in their order: too long, of no form, too great.
func TestParseLong(t *testing.T) {
	const limit = api.MaxText
	nines := func(n int) string { return strings.Repeat("9", n) }
	tens := func(n int) string { return "1" + strings.Repeat("0", n-1) }
	half := limit/2 - 1
	for i, c := range []struct {
		s string
		e api.Errno
	}{
		{nines(limit + 1), api.ErrLimit},
		{strings.Repeat("x", limit+1), api.ErrLimit},
		{"6/4" + strings.Repeat(" ", limit), api.ErrLimit},
		{strings.Repeat("x", limit), api.ErrForm},
		{nines(limit-1) + "x", api.ErrForm},
		{"0" + nines(limit-1), api.ErrForm},
		{nines(limit-2) + "/1", api.ErrForm},
		{nines(limit-2) + "/3", api.ErrForm},
		{nines(limit-2) + "/0", api.ErrForm},
		{"0/" + nines(limit-2), api.ErrForm},
		{"3/" + nines(limit-2), api.ErrForm},
		{nines(half) + "/" + nines(half), api.ErrForm},
		{tens(half) + "/" + tens(half+1), api.ErrForm},
		{"-" + nines(half) + "/" + nines(half-3), api.ErrForm},
		{nines(limit), api.ErrLimit},
		{"-" + nines(limit-1), api.ErrLimit},
		{nines(limit-2) + "/2", api.ErrLimit},
		{"2/" + nines(limit-2), api.ErrLimit},
		{"-1/" + nines(limit-3), api.ErrLimit},
		{nines(half+1) + "/" + tens(half), api.ErrLimit},
	} {
		x, e := frac.Parse(c.s)
		if e != c.e {
			t.Errorf("text %d, of %d bytes: %v, not %v", i, len(c.s), e, c.e)
		}
		refused(t, "Parse of a long text", x, e, e)
	}
}

// P2.6: numbers at the limit, in either place.
func TestParseLimit(t *testing.T) {
	beyond := power(32*api.MaxLimbs, 0)
	three := big.NewInt(3)
	l := []*big.Rat{
		over(most(), big.NewInt(1)), over(beyond, big.NewInt(1)), over(minus(most()), big.NewInt(1)), over(minus(beyond), big.NewInt(1)),
		over(big.NewInt(1), most()), over(big.NewInt(1), beyond), over(other(), most()), over(most(), other()),
		over(beyond, three), over(three, beyond), over(minus(most()), beyond), over(beyond, most()),
	}
	for _, x := range l {
		y, e := frac.Parse(x.RatString())
		fits(t, "Parse", y, e, x)
	}
}
