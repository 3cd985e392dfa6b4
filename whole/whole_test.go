package whole_test

import (
	"math/big"
	"math/rand"
	"strings"
	"testing"

	"polestar/api"
	"polestar/whole"
)

// P1.1
func TestOf(t *testing.T) {
	for _, n := range []int64{0, 1, -1, 5, -5, 1<<31 - 1, 1 << 31, 1<<32 - 1, 1 << 32, -1 << 32, 1<<63 - 1, -1<<63 + 1, -1 << 63} {
		if x := whole.Of(n); !same(x, of(big.NewInt(n))) {
			t.Errorf("Of(%d) = %v", n, x)
		}
	}
	if x := whole.Of(-1 << 63); !same(x, api.Int{Neg: true, Mag: []uint32{0, 1 << 31}}) {
		t.Errorf("Of(-2^63) = %v", x)
	}
}

// P1.1
func TestCheck(t *testing.T) {
	for i, x := range wrong() {
		if e := whole.Check(x); e != api.ErrArg {
			t.Errorf("number %d that may not be: %v", i, e)
		}
	}
	l := append(edges(), api.Int{}, api.Int{Mag: []uint32{}}, api.Int{Mag: []uint32{0, 0, 1}}, top(1), top(api.MaxLimbs))
	for _, x := range l {
		if e := whole.Check(x); e != api.OK {
			t.Errorf("Check(%v) = %v", worth(x), e)
		}
	}
}

// P1.2
func TestInt64(t *testing.T) {
	for _, x := range edges() {
		want := worth(x)
		n, ok := whole.Int64(x)
		if ok != want.IsInt64() || ok && n != want.Int64() || !ok && n != 0 {
			t.Errorf("Int64(%v) = %d, %v", want, n, ok)
		}
	}
	for i, x := range wrong() {
		if n, ok := whole.Int64(x); n != 0 || ok {
			t.Errorf("number %d that may not be: %d, %v", i, n, ok)
		}
	}
}

// P1.2
func TestSignBitsCmp(t *testing.T) {
	pairs(func(x, y api.Int) {
		a, b := worth(x), worth(y)
		if whole.Sign(x) != a.Sign() || whole.Bits(x) != a.BitLen() || whole.Cmp(x, y) != a.Cmp(b) {
			t.Fatalf("%v and %v: Sign %d, Bits %d, Cmp %d", a, b, whole.Sign(x), whole.Bits(x), whole.Cmp(x, y))
		}
	})
	if n := whole.Bits(full(api.MaxLimbs)); n != 65536 {
		t.Errorf("Bits of the greatest one: %d", n)
	}
	for i, x := range wrong() {
		if whole.Sign(x) != 0 || whole.Bits(x) != 0 {
			t.Errorf("number %d that may not be: Sign %d, Bits %d", i, whole.Sign(x), whole.Bits(x))
		}
		for _, y := range []api.Int{{}, whole.Of(-3), full(api.MaxLimbs), x} {
			if whole.Cmp(x, y) != 0 || whole.Cmp(y, x) != 0 {
				t.Errorf("number %d that may not be: Cmp %d, %d", i, whole.Cmp(x, y), whole.Cmp(y, x))
			}
		}
	}
}

// P1.3, P1.4
func TestTwos(t *testing.T) {
	pairs(func(x, y api.Int) {
		a, b := worth(x), worth(y)
		s, e := whole.Add(x, y)
		fits(t, "Add", s, e, new(big.Int).Add(a, b))
		s, e = whole.Sub(x, y)
		fits(t, "Sub", s, e, new(big.Int).Sub(a, b))
		s, e = whole.Mul(x, y)
		fits(t, "Mul", s, e, new(big.Int).Mul(a, b))
		s, e = whole.GCD(x, y)
		fits(t, "GCD", s, e, new(big.Int).GCD(nil, nil, new(big.Int).Abs(a), new(big.Int).Abs(b)))
		q, r, e := whole.QuoRem(x, y)
		if b.Sign() == 0 {
			refused(t, "quotient", q, e, api.ErrZero)
			refused(t, "rest", r, e, api.ErrZero)
			return
		}
		quo, rest := new(big.Int).QuoRem(a, b, new(big.Int))
		fits(t, "quotient", q, e, quo)
		fits(t, "rest", r, e, rest)
	})
}

// P1.3, P1.4: what may not be, on either side, with nought and what is too great on the other one.
func TestTwosWrong(t *testing.T) {
	for _, c := range twos() {
		for _, x := range wrong() {
			for _, y := range []api.Int{{}, whole.Of(-3), full(api.MaxLimbs), x} {
				s, e := c.do(x, y)
				refused(t, c.name, s, e, api.ErrArg)
				s, e = c.do(y, x)
				refused(t, c.name, s, e, api.ErrArg)
			}
		}
	}
}

// P1.3: the greatest answers that may be, and those one above.
func TestLimits(t *testing.T) {
	most, half, one := full(api.MaxLimbs), full(api.MaxLimbs/2), whole.Of(1)
	s, e := whole.Add(most, one)
	refused(t, "Add", s, e, api.ErrLimit)
	s, e = whole.Sub(minus(most), one)
	refused(t, "Sub", s, e, api.ErrLimit)
	s, e = whole.Add(most, api.Int{})
	fits(t, "Add", s, e, worth(most))
	s, e = whole.Sub(most, most)
	fits(t, "Sub", s, e, new(big.Int))
	s, e = whole.Mul(half, half)
	fits(t, "Mul", s, e, new(big.Int).Mul(worth(half), worth(half)))
	s, e = whole.Mul(half, top(api.MaxLimbs/2+2))
	refused(t, "Mul", s, e, api.ErrLimit)
	s, e = whole.Mul(most, most)
	refused(t, "Mul", s, e, api.ErrLimit)
	s, e = whole.Mul(most, minus(one))
	fits(t, "Mul", s, e, worth(minus(most)))
}

// P1.5
func TestRoot(t *testing.T) {
	ask := func(x api.Int) {
		t.Helper()
		r, square, e := whole.Root(x)
		if x.Neg {
			if refused(t, "Root", r, e, api.ErrArg); square {
				t.Error("what is below nought is a square")
			}
			return
		}
		want := new(big.Int).Sqrt(worth(x))
		fits(t, "Root", r, e, want)
		if square != (new(big.Int).Mul(want, want).Cmp(worth(x)) == 0) {
			t.Fatalf("Root(%v): square %v", worth(x), square)
		}
	}
	for _, x := range edges() {
		ask(x)
	}
	r := rand.New(rand.NewSource(8))
	for i := range 1000 {
		n := worth(sized(r, 8))
		if i == 0 {
			n = worth(full(api.MaxLimbs / 2))
		}
		n.Mul(n, n)
		for d := int64(-1); d <= 1; d++ { // squares, and their neighbours
			ask(of(new(big.Int).Add(n, big.NewInt(d))))
		}
	}
	for _, x := range wrong() {
		r, square, e := whole.Root(x)
		if refused(t, "Root", r, e, api.ErrArg); square {
			t.Error("what may not be is a square")
		}
	}
}

// P1.5
func TestShift(t *testing.T) {
	for _, x := range edges() {
		for _, n := range []int{0, 1, 2, 31, 32, 33, 63, 64, 65, 96, 128, 300, 32767, 32768, 65279, 65280, 65535, 65536, 65537} {
			s, e := whole.Shift(x, n)
			fits(t, "Shift", s, e, new(big.Int).Lsh(worth(x), uint(n)))
			s, e = whole.Shift(x, -n)
			fits(t, "Shift", s, e, new(big.Int).Rsh(worth(x), uint(n))) // the library's is the greatest one not above, too
		}
		for _, n := range []int{1 << 17, 1 << 40, 1 << 62, 1<<63 - 1} {
			s, e := whole.Shift(x, n)
			if len(x.Mag) == 0 {
				fits(t, "Shift", s, e, new(big.Int))
			} else {
				refused(t, "Shift", s, e, api.ErrLimit)
			}
			s, e = whole.Shift(x, -n-1)
			fits(t, "Shift", s, e, big.NewInt(int64(min(worth(x).Sign(), 0))))
		}
	}
	for _, x := range wrong() {
		for _, n := range []int{-1 << 63, -1, 0, 1, 1<<63 - 1} {
			s, e := whole.Shift(x, n)
			refused(t, "Shift", s, e, api.ErrArg)
		}
	}
}

// P1.6
func TestText(t *testing.T) {
	l := edges()
	r := rand.New(rand.NewSource(10))
	for range 500 {
		l = append(l, sized(r, 12))
	}
	for _, x := range l {
		if s, e := whole.Text(x); e != api.OK || s != worth(x).String() {
			t.Errorf("Text(%v) = %s, %v", worth(x), s, e)
		}
	}
	for _, x := range wrong() {
		if s, e := whole.Text(x); s != "" || e != api.ErrArg {
			t.Errorf("Text of what may not be = %s, %v", s, e)
		}
	}
}

// P1.6
func TestParse(t *testing.T) {
	most := worth(full(api.MaxLimbs))
	over := new(big.Int).Add(most, big.NewInt(1))
	for _, n := range []*big.Int{new(big.Int), big.NewInt(7), big.NewInt(-10), big.NewInt(-1 << 63), most, new(big.Int).Neg(most), over, new(big.Int).Neg(over)} {
		x, e := whole.Parse(n.String())
		fits(t, "Parse", x, e, n)
	}
	for n := range 70 {
		for _, s := range []string{"1" + strings.Repeat("0", n), "-" + strings.Repeat("9", n+1), strings.Repeat("123456789", n+1)} {
			want, _ := new(big.Int).SetString(s, 10)
			x, e := whole.Parse(s)
			fits(t, "Parse", x, e, want)
		}
	}
}

// P1.6: its errors, in their order: too long, no number, too great.
func TestParseWrong(t *testing.T) {
	for _, s := range []string{"", "-", "-0", "-00", "00", "01", "-01", "+1", " 1", "1 ", "1\n", "--1", "1-", "1-1", "0x1", "1_0", "1.0", "1e3", "1/2", "a", "1:", "1/", "\x00", "\u0661", "\uff11"} {
		x, e := whole.Parse(s)
		refused(t, "Parse of "+s, x, e, api.ErrForm)
	}
	nines := strings.Repeat("9", api.MaxText)
	for _, c := range []struct {
		s string
		e api.Errno
	}{
		{nines, api.ErrLimit},
		{nines + "9", api.ErrLimit},
		{nines + "x", api.ErrLimit},
		{strings.Repeat(" ", api.MaxText+1), api.ErrLimit},
		{nines[1:] + "x", api.ErrForm},
		{"0" + nines[1:], api.ErrForm},
		{"-" + nines[1:], api.ErrLimit},
		{strings.Repeat(" ", api.MaxText), api.ErrForm},
	} {
		x, e := whole.Parse(c.s)
		refused(t, "Parse of a long text", x, e, c.e)
	}
}
