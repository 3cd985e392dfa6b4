package disc_test

import (
	"fmt"
	"math"
	"math/big"
	"math/rand"
	"testing"

	"polestar/api"
	"polestar/disc"
)

// P7.1
func TestCheck(t *testing.T) {
	for _, d := range wrong() {
		if e := disc.Check(d); e != api.ErrArg {
			t.Errorf("Check(%s) = %v", tell(d), e)
		}
	}
	for _, d := range append(discs(), api.Disc{}, at(0, minus0), at(complex(minus0, minus0), minus0), at(complex(most, -most), most), at(complex(-tiny, tiny), tiny)) {
		if e := disc.Check(d); e != api.OK {
			t.Errorf("Check(%s) = %v", tell(d), e)
		}
	}
}

// fracs: fractions: floats, what lies a hair beside them and halfway to the next one, below the least one, with as many limbs as may be.
func fracs() []*big.Rat {
	var l []*big.Rat
	hair := power(-1300)
	for _, v := range edges() {
		x := worth(v)
		l = append(l, x, add(x, hair), sub(x, hair))
		if math.Abs(v) != most {
			l = append(l, mul(add(x, worth(math.Nextafter(v, infinity))), big.NewRat(1, 2)))
		}
	}
	r := rand.New(rand.NewSource(71))
	for range 100 {
		l = append(l, big.NewRat(r.Int63n(4000)-2000, 1+r.Int63n(2000)))
		num, den := new(big.Int).Rand(r, power(1+r.Intn(1300)).Num()), new(big.Int).Rand(r, power(1+r.Intn(1300)).Num())
		if x := new(big.Rat).SetFrac(num, den.Add(den, big.NewInt(1))); x.Cmp(worth(most)) <= 0 {
			l = append(l, x, neg(x))
		}
	}
	top := power(32*api.MaxLimbs - 1)
	almost := sub(add(top, top), power(0)) // the greatest number that may be
	third := new(big.Rat).SetFrac(top.Num(), almost.Num())
	for _, x := range []*big.Rat{
		power(-1075), power(-4000), new(big.Rat).Inv(top), new(big.Rat).Inv(almost), third, // a half and less than any float more
		sub(power(1024), power(970)), sub(worth(most), power(-20000)), add(worth(most), power(900)),
		new(big.Rat).SetFrac(sub(almost, power(2)).Num(), almost.Num()), new(big.Rat).SetFrac(almost.Num(), top.Num()),
	} {
		l = append(l, x, neg(x))
	}
	return l
}

// wantOf: what the chapter says of a number.
func wantOf(z pair) (api.Disc, api.Errno) {
	x, _ := z.re.Float64()
	y, _ := z.im.Float64()
	if !finite(x, y) {
		return api.Disc{}, api.ErrInf
	}
	off := z.less(exact(complex(x, y)))
	return told(complex(x, y), farUp(complex(above(off.re.Abs(off.re)), above(off.im.Abs(off.im)))))
}

// P7.1
func TestOf(t *testing.T) {
	l := fracs()
	ask := func(x, y *big.Rat) {
		t.Helper()
		z := pair{x, y}
		d, e := disc.Of(z.number())
		want, code := wantOf(z)
		is(t, fmt.Sprintf("Of(%.200s)", z), d, e, want, code)
	}
	for i, x := range l {
		ask(x, new(big.Rat))
		ask(new(big.Rat), x)
		for j := i % 29; j < len(l); j += 29 {
			ask(x, l[j])
		}
	}
	ask(power(1024), power(-1100))
	ask(power(3), neg(power(5000)))
	ask(power(32*api.MaxLimbs-1), power(1-32*api.MaxLimbs))
}

// badFracs: fractions that may not be.
func badFracs() []api.Frac {
	one, two := api.Int{Mag: []uint32{1}}, api.Int{Mag: []uint32{2}}
	long := api.Int{Mag: make([]uint32, api.MaxLimbs+1)}
	long.Mag[api.MaxLimbs] = 1
	return []api.Frac{
		{}, {Num: one}, {Num: api.Int{Neg: true}, Den: one}, {Num: one, Den: api.Int{Neg: true, Mag: []uint32{1}}}, {Den: two}, {Num: two, Den: two},
		{Num: api.Int{Mag: []uint32{3, 0}}, Den: one}, {Num: one, Den: api.Int{Mag: []uint32{3, 0}}}, {Num: long, Den: one}, {Num: one, Den: long},
	}
}

// P7.1, P7.4: numbers that may not be, ahead of such as are beyond the floats.
func TestWrongNumbers(t *testing.T) {
	for i, x := range badFracs() {
		for j, y := range []api.Frac{of(new(big.Rat)), of(big.NewRat(1, 3)), of(power(2000)), x} {
			for _, z := range []api.Gauss{{Re: x, Im: y}, {Re: y, Im: x}} {
				what := fmt.Sprintf("of wrong fraction %d beside %d", i, j)
				d, e := disc.Of(z)
				is(t, "Of "+what, d, e, api.Disc{}, api.ErrArg)
				for _, d := range append(wrong(), at(0, 1), at(0, most)) {
					if has, e := disc.Has(d, z); has || e != api.ErrArg {
						t.Fatalf("Has(%s) %s = %v, %v", tell(d), what, has, e)
					}
				}
			}
		}
	}
}

// P7.2: bit by bit what the table says, by the library's numbers.
func TestTwos(t *testing.T) {
	pairs(func(a, b api.Disc) {
		for _, c := range twos() {
			want, code := c.want(a, b)
			d, e := c.do(a, b)
			is(t, fmt.Sprintf("%s(%s, %s)", c.name, tell(a), tell(b)), d, e, want, code)
		}
	})
}

// P7.2
func TestConj(t *testing.T) {
	ask := func(a api.Disc) {
		t.Helper()
		want, _ := told(complex(real(a.C), -imag(a.C)), a.R)
		d, e := disc.Conj(a)
		is(t, fmt.Sprintf("Conj(%s)", tell(a)), d, e, want, api.OK)
	}
	r := rand.New(rand.NewSource(72))
	for _, a := range discs() {
		ask(a)
		ask(near(r, r.Intn(2100)-1078))
	}
}

// P7.3
func TestAbs(t *testing.T) {
	ask := func(a api.Disc) {
		t.Helper()
		lo, hi := far(a.C)
		want, code := api.Span{Lo: addDown(lo, -a.R), Hi: addUp(hi, a.R)}, api.OK
		if want.Lo <= 0 {
			want.Lo = 0
		}
		if want.Hi == 0 {
			want.Hi = 0
		}
		if math.IsInf(want.Hi, 1) {
			want, code = api.Span{}, api.ErrInf
		}
		s, e := disc.Abs(a)
		if bits(s.Lo) != bits(want.Lo) || bits(s.Hi) != bits(want.Hi) || e != code {
			t.Fatalf("Abs(%s) = %v, %v, not %v, %v", tell(a), s, e, want, code)
		}
	}
	r := rand.New(rand.NewSource(73))
	for _, a := range discs() {
		ask(a)
	}
	for range 5000 {
		a := near(r, r.Intn(2100)-1078)
		ask(a)
		ask(at(a.C, math.Min(math.Hypot(real(a.C), imag(a.C)), most)))
	}
	for _, a := range []api.Disc{at(complex(most, most), 0), at(complex(most, tiny), 0), at(most, 0), at(most, tiny), at(0, most), at(tiny, most), at(-tiny, tiny), at(complex(minus0, minus0), minus0), at(5, 5), at(3+4i, 5-4*eps)} {
		ask(a)
	}
}

// P7.2: what is beyond the floats: a part of the middle, the radius, or a step that leaves no number.
func TestBeyond(t *testing.T) {
	great := complex(most, most) // farther from nought than any float
	for _, c := range []struct {
		what string
		do   func(a, b api.Disc) (api.Disc, api.Errno)
		a, b api.Disc
		want api.Disc
		code api.Errno
	}{
		{"Add", disc.Add, at(most, 0), at(most, 0), api.Disc{}, api.ErrInf},
		{"Add", disc.Add, at(most, 0), at(tiny, 0), at(most, tiny), api.OK},
		{"Add", disc.Add, at(great, 0), at(complex(-most, -most), 0), at(0, 0), api.OK},
		{"Add", disc.Add, at(1, most), at(1, tiny), api.Disc{}, api.ErrInf},
		{"Add", disc.Add, at(1, most), at(eps/4, 0), api.Disc{}, api.ErrInf}, // what the sum has lost is too much
		{"Sub", disc.Sub, at(-most, 0), at(most, 0), api.Disc{}, api.ErrInf},
		{"Sub", disc.Sub, at(most, 0), at(most, 0), at(0, 0), api.OK},
		{"Sub", disc.Sub, at(complex(0, -most), 1), at(complex(0, most), 0), api.Disc{}, api.ErrInf},
		{"Mul", disc.Mul, at(great, 0), at(0, 0), api.Disc{}, api.ErrInf}, // infinity by nought
		{"Mul", disc.Mul, at(great, 0), at(0.5, 0), api.Disc{}, api.ErrInf},
		{"Mul", disc.Mul, at(great, 0), at(0.5, tiny), api.Disc{}, api.ErrInf},
		{"Mul", disc.Mul, at(most, 0), at(0.5, 0), at(most/2, 0), api.OK},
		{"Mul", disc.Mul, at(most, 1), at(2i, 0), api.Disc{}, api.ErrInf},
		{"Mul", disc.Mul, at(0, 0x1p600), at(0, 0x1p600), api.Disc{}, api.ErrInf},
		{"Mul", disc.Mul, at(0x1p600, 0), at(0, 0x1p600), api.Disc{}, api.ErrInf},
		{"Mul", disc.Mul, at(tiny, 0), at(0.5, 0), at(0, tiny), api.OK},
		{"Mul", disc.Mul, at(tiny, 0), at(tiny*1i, 0), at(0, tiny), api.OK},
		{"Quo", disc.Quo, at(1, 0), at(0x1p-600, 0), api.Disc{}, api.ErrInf}, // the divisor is nought
		{"Quo", disc.Quo, at(0, 0), at(0x1p-600, 0), api.Disc{}, api.ErrInf},
		{"Quo", disc.Quo, at(0, 0), at(great, 0), api.Disc{}, api.ErrInf},
		{"Quo", disc.Quo, at(1, 0), at(0x1p600, 0), at(0, 0x1p-600), api.OK},
		{"Quo", disc.Quo, at(0, most), at(0.5, 0), api.Disc{}, api.ErrInf},
		{"Quo", disc.Quo, at(0, most), at(1, 0), at(0, most), api.OK},
		{"Quo", disc.Quo, at(1, 1), at(tiny, 0), api.Disc{}, api.ErrInf},
	} {
		d, e := c.do(c.a, c.b)
		is(t, fmt.Sprintf("%s(%s, %s)", c.what, tell(c.a), tell(c.b)), d, e, c.want, c.code)
	}
}

// P7.2: the divisor's radius at, straight below and above the float below its middle's distance.
func TestDivisorsAboutNought(t *testing.T) {
	r := rand.New(rand.NewSource(74))
	l := []complex128{1, -1i, 3 - 4i, 1 + 1i, complex(tiny, 0), complex(tiny, tiny), complex(most, 0), complex(most, most), complex(full, -full), 0, complex(minus0, minus0)}
	for range 500 {
		l = append(l, near(r, r.Intn(2000)-1000).C)
	}
	for _, c := range l {
		at0 := farDown(c)
		for _, b := range []api.Disc{at(c, at0), at(c, min(math.Nextafter(at0, infinity), most)), at(c, most)} {
			for _, a := range []api.Disc{at(1, 0), at(0, 0), at(complex(most, most), most)} {
				d, e := disc.Quo(a, b)
				is(t, fmt.Sprintf("Quo(%s, %s)", tell(a), tell(b)), d, e, api.Disc{}, api.ErrZero)
			}
		}
		if at0 == 0 {
			continue
		}
		b := at(c, math.Nextafter(at0, 0))
		a := at(c, 0)
		d, e := disc.Quo(a, b)
		want, code := wantQuo(a, b)
		is(t, fmt.Sprintf("Quo(%s, %s)", tell(a), tell(b)), d, e, want, code)
		if e == api.ErrZero {
			t.Fatalf("Quo(%s, %s): ErrZero", tell(a), tell(b))
		}
	}
}

// P7.2 to P7.4: discs that may not be, ahead of all else.
func TestWrongDiscs(t *testing.T) {
	right := []api.Disc{at(0, 0), at(1, 1), at(3-4i, 0.5), at(complex(most, most), most), at(0, most)}
	for _, a := range wrong() {
		d, e := disc.Conj(a)
		is(t, fmt.Sprintf("Conj(%s)", tell(a)), d, e, api.Disc{}, api.ErrArg)
		if s, e := disc.Abs(a); s != (api.Span{}) || e != api.ErrArg {
			t.Errorf("Abs(%s) = %v, %v", tell(a), s, e)
		}
		for _, z := range []pair{exact(0), exact(1i), {power(2000), big.NewRat(1, 3)}} {
			if has, e := disc.Has(a, z.number()); has || e != api.ErrArg {
				t.Errorf("Has(%s, %v) = %v, %v", tell(a), z, has, e)
			}
		}
		for _, b := range append(right, a, at(0, -1)) {
			for _, c := range [][2]api.Disc{{a, b}, {b, a}} {
				what := fmt.Sprintf("(%s, %s)", tell(c[0]), tell(c[1]))
				for _, f := range twos() {
					d, e := f.do(c[0], c[1])
					is(t, f.name+what, d, e, api.Disc{}, api.ErrArg)
				}
				if in, e := disc.In(c[0], c[1]); in || e != api.ErrArg {
					t.Errorf("In%s = %v, %v", what, in, e)
				}
				if apart, e := disc.Apart(c[0], c[1]); apart || e != api.ErrArg {
					t.Errorf("Apart%s = %v, %v", what, apart, e)
				}
			}
		}
	}
}

// P7.2, P7.3: a nought that is answered has no sign, whichever it came from.
func TestNoughts(t *testing.T) {
	var l []api.Disc
	for _, re := range []float64{0, minus0} {
		for _, im := range []float64{0, minus0} {
			l = append(l, at(complex(re, im), 0), at(complex(re, im), minus0))
		}
	}
	zero := api.Disc{}
	for _, a := range l {
		d, e := disc.Conj(a)
		is(t, "Conj", d, e, zero, api.OK)
		if s, e := disc.Abs(a); bits(s.Lo) != 0 || bits(s.Hi) != 0 || e != api.OK {
			t.Errorf("Abs(%s) = %v, %v", tell(a), s, e)
		}
		for _, b := range append(l, at(complex(-3, minus0), minus0), at(complex(minus0, 2), minus0), at(complex(minus0, -tiny), 0)) {
			plain := at(b.C+0, b.R+0)
			d, e = disc.Add(a, b)
			is(t, "Add", d, e, plain, api.OK)
			d, e = disc.Sub(b, a)
			is(t, "Sub", d, e, plain, api.OK)
			d, e = disc.Mul(b, a)
			is(t, "Mul", d, e, zero, api.OK)
			if has, e := disc.Has(a, exact(0).number()); !has || e != api.OK {
				t.Errorf("Has(%s, 0) = %v, %v", tell(a), has, e)
			}
		}
		for _, b := range []complex128{-2, complex(minus0, -1), complex(-0.25, minus0)} {
			d, e = disc.Quo(a, at(b, minus0))
			is(t, "Quo", d, e, zero, api.OK)
		}
	}
	d, e := disc.Mul(at(complex(-1, minus0), 0), at(complex(0x1p-600, 0), 0))
	is(t, "Mul", d, e, at(-0x1p-600, 0), api.OK)
	d, e = disc.Of(pair{neg(power(-1075)), neg(power(-1200))}.number())
	is(t, "Of", d, e, at(0, 2*tiny), api.OK) // each part is less than tiny off, which is rounded up
}
