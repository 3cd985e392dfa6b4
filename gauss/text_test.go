package gauss_test

import (
	"math/big"
	"math/rand"
	"strings"
	"testing"

	"polestar/api"
	"polestar/frac"
	"polestar/gauss"
)

// text: what the chapter says of a number's text.
func text(z api.Gauss) string {
	x, y := sure(frac.Text(z.Re)), sure(frac.Text(z.Im))
	second := map[string]string{"0": "", "1": "i", "-1": "-i"}
	y2, plain := second[y]
	if !plain {
		y2 = y + "i"
	}
	switch {
	case y == "0":
		return x
	case x == "0":
		return y2
	case frac.Sign(z.Im) > 0:
		return x + "+" + y2
	}
	return x + y2
}

// P3.6, P3.7: Text, and back.
func TestText(t *testing.T) {
	l := edges()
	r := rand.New(rand.NewSource(34))
	for i := range 800 {
		l = append(l, someNumber(r, 2+i%300), number(some(r, 40), small(int64(i%3-1), 1)), number(small(int64(i%3-1), 1), some(r, 40)))
	}
	for _, z := range huge() {
		if len(text(z)) <= api.MaxText {
			l = append(l, z)
		}
	}
	for _, z := range l {
		s, e := gauss.Text(z)
		if want := text(z); s != want || e != api.OK {
			t.Fatalf("Text of %s = %.100s, %v, not %.100s", told(z), s, e, want)
		}
		back, e := gauss.Parse(s)
		is(t, "Parse", back, e, z)
	}
}

// P3.6: what may not be stands ahead of a text that would be too long.
func TestTextWrong(t *testing.T) {
	long := quo(most(), top())
	for _, x := range wrongFracs() {
		for _, z := range []api.Gauss{number(x, long), number(long, x)} {
			if s, e := gauss.Text(z); s != "" || e != api.ErrArg {
				t.Errorf("Text of what may not be = %.100s, %v", s, e)
			}
		}
	}
	for i, z := range wrong() {
		if s, e := gauss.Text(z); s != "" || e != api.ErrArg {
			t.Errorf("number %d that may not be: %.100s, %v", i, s, e)
		}
	}
}

// tens: 1 and noughts, n digits in all. over: that over m nines, with which it has nothing in common.
func tens(n int) string { return "1" + strings.Repeat("0", n-1) }

func over(n, m int) string { return tens(n) + "/" + strings.Repeat("9", m) }

// P3.6: texts just as long as may be, and one byte longer.
func TestTextLimit(t *testing.T) {
	const n = 17000
	left := api.MaxText - 2 - (2*n + 1) // for the second part but its sign and its i
	for _, c := range []struct {
		re, im string
		e      api.Errno
	}{
		{over(n, n), over(n, left-n-1), api.OK},
		{over(n, n), over(n, left-n), api.ErrLimit},
		{over(n, n), "-" + over(n, left-n-1), api.OK},
		{"-" + over(n, n), over(n, left-n-2), api.OK},
		{"-" + over(n, n), over(n, left-n-1), api.ErrLimit},
		{over(19000, 19000), over(19000, 19000), api.ErrLimit},
	} {
		z := number(sure(frac.Parse(c.re)), sure(frac.Parse(c.im)))
		s := c.re + "+" + c.im + "i"
		s = strings.Replace(s, "+-", "-", 1)
		if got, e := gauss.Text(z); e != c.e || e == api.OK && got != s || e != api.OK && got != "" {
			t.Errorf("Text of %d bytes: %v", len(s), e)
		}
		got, e := gauss.Parse(s)
		if c.e == api.OK {
			is(t, "Parse", got, e, z)
		} else {
			refused(t, "Parse", got, e, c.e)
		}
	}
}

// everyShort: every text of these letters of up to n bytes.
func everyShort(letters string, n int, ask func(s string)) {
	var from func(s string)
	from = func(s string) {
		ask(s)
		if len(s) < n {
			for i := range len(letters) {
				from(s + letters[i:i+1])
			}
		}
	}
	from("")
}

// P3.6: of all short texts just those are taken that are the text of some number.
func TestParseShort(t *testing.T) {
	const n = 6
	var l []string
	everyShort("0124/-", n, func(s string) {
		if _, e := frac.Parse(s); e == api.OK {
			l = append(l, s)
		}
	})
	left := map[string]bool{}
	for _, x := range l {
		for _, y := range l {
			if len(x)+len(y) > n+1 { // a nought and a 1 may be left out
				continue
			}
			if s := text(number(sure(frac.Parse(x)), sure(frac.Parse(y)))); len(s) <= n {
				left[s] = true
			}
		}
	}
	if len(left) < 5000 {
		t.Errorf("%d texts are asked for", len(left))
	}
	everyShort("0124/+-i", n, func(s string) {
		z, e := gauss.Parse(s)
		if !left[s] {
			refused(t, "Parse of "+s, z, e, api.ErrForm)
		} else if delete(left, s); e != api.OK || text(z) != s {
			t.Fatalf("Parse of %s = %s, %v", s, told(z), e)
		}
	})
	for s := range left {
		t.Errorf("%s has not been asked for", s)
	}
}

// P3.6
func TestParseWrong(t *testing.T) {
	for _, s := range []string{
		"-", "+", "/", "/i", "-/i", "ii", "i/2", "1/i", "1/2/3i", "i1", "1i2", "-1i", "1+1i", "1-1i", "-1-1i", "1/1i", "1+1/1i",
		"0i", "-0", "-0i", "0+0i", "0-i", "0+2i", "0-1/2i", "1+0i", "1-0i", "-0+i", "+1", "+1i", "+2i", "1++i", "1--i", "1-+i", "1+-2i", "--i", "++i",
		"1+2", "1-2", "1+i+i", "1+2i-3i", "i+i", "2i+1", "1+2+i", "1/2+2/4i", "2/4+1/2i", "2/4+i", "4/2-i", "1+i2", "1+i ", " 1+i", "1 +i", "1+ i", "1+2 i",
		"1+i\n", "i\x00", "1+I", "I", "j", "1+2j", "(1+i)", "01+i", "1+02i", "00i", "-01i", "1.5+i", "1e2i", "0x1i", "1_0i", "NaN", "Inf+i",
		"1+1/0i", "1/0+i", "0/1+i", "1\u2212i", "\u0661i", "\u0131", "1+i\u0307", "i\xff", "\xff+i", "1+\xffi", "\u00bdi",
	} {
		z, e := gauss.Parse(s)
		refused(t, "Parse of "+s, z, e, api.ErrForm)
	}
}

// P3.6: the errors in their order: too long, of no form, too great in one part.
func TestParseLong(t *testing.T) {
	nines := func(n int) string { return strings.Repeat("9", n) }
	const great = 19730 // digits of more than MaxLimbs limbs
	for i, c := range []struct {
		s string
		e api.Errno
	}{
		{nines(api.MaxText) + "i", api.ErrLimit},
		{strings.Repeat("x", api.MaxText+1), api.ErrLimit},
		{"1+0i" + strings.Repeat(" ", api.MaxText), api.ErrLimit},
		{strings.Repeat("i", api.MaxText), api.ErrForm},
		{strings.Repeat("-", api.MaxText-1) + "i", api.ErrForm},
		{strings.Repeat("+", api.MaxText), api.ErrForm},
		{"0+" + nines(great) + "i", api.ErrForm},
		{nines(great) + "+0i", api.ErrForm},
		{nines(great) + "+1i", api.ErrForm},
		{nines(great) + "-1i", api.ErrForm},
		{nines(great) + "+2/4i", api.ErrForm},
		{nines(great) + "+01i", api.ErrForm},
		{nines(great) + "+xi", api.ErrForm},
		{"2/4+" + nines(great) + "i", api.ErrForm},
		{"-0-" + nines(great) + "i", api.ErrForm},
		{"x+" + nines(great) + "i", api.ErrForm},
		{"+" + nines(great) + "i", api.ErrForm},
		{"i+" + nines(great), api.ErrForm},
		{nines(great) + "/" + nines(great) + "i", api.ErrForm},
		{nines(great) + "+" + nines(great) + "/3i", api.ErrForm},
		{nines(great) + "/3-" + nines(great) + "i", api.ErrForm},
		{nines(great), api.ErrLimit},
		{nines(great) + "i", api.ErrLimit},
		{"-" + nines(great) + "i", api.ErrLimit},
		{nines(great) + "+i", api.ErrLimit},
		{nines(great) + "-i", api.ErrLimit},
		{"1+" + nines(great) + "i", api.ErrLimit},
		{"1/2-3/" + tens(great) + "i", api.ErrLimit},
		{"1/" + tens(great) + "+2i", api.ErrLimit},
		{nines(great) + "+" + nines(great) + "i", api.ErrLimit},
		{nines(api.MaxText-1) + "i", api.ErrLimit},
	} {
		z, e := gauss.Parse(c.s)
		if e != c.e {
			t.Errorf("text %d, of %d bytes: %v, not %v", i, len(c.s), e, c.e)
		}
		refused(t, "Parse of a long text", z, e, e)
	}
}

// P3.6: numbers at the limit, in either part, and the least one beyond it.
func TestParseLimit(t *testing.T) {
	beyond := new(big.Int).Lsh(big.NewInt(1), 32*api.MaxLimbs).String()
	for _, s := range []string{beyond, beyond + "i", "1-" + beyond + "i", "1/" + beyond + "+i", "1/3-3/" + beyond + "i"} {
		got, e := gauss.Parse(s)
		refused(t, "Parse of a number beyond the limit", got, e, api.ErrLimit)
	}
	for _, x := range []api.Frac{most(), minus(most()), inverse(most()), quo(most(), top()), minus(quo(top(), most()))} {
		for _, y := range []api.Frac{small(0, 1), small(1, 1), small(-2, 3)} {
			for _, z := range []api.Gauss{number(x, y), number(y, x)} {
				got, e := gauss.Parse(text(z))
				is(t, "Parse", got, e, z)
			}
		}
	}
}
