package span_test

import (
	"fmt"
	"math"
	"math/big"
	"math/rand"
	"slices"
	"testing"

	"polestar/api"
	"polestar/span"
)

// P5.1
func TestCheck(t *testing.T) {
	for _, s := range wrong() {
		if e := span.Check(s); e != api.ErrArg {
			t.Errorf("Check(%v) = %v", s, e)
		}
	}
	for _, s := range append(spans(), to(-most, most), to(most, most), to(-tiny, tiny), to(1, 1+eps)) {
		if e := span.Check(s); e != api.OK {
			t.Errorf("Check(%v) = %v", s, e)
		}
	}
}

// asked: fractions: floats, what lies a hair beside them and halfway to the next one, beyond the floats, below the least one.
func asked() []*big.Rat {
	var l []*big.Rat
	hair := power(-1300)
	for _, v := range edges() {
		x := worth(v)
		l = append(l, x, add(x, hair), sub(x, hair))
		if math.Abs(v) != most {
			l = append(l, mul(add(x, worth(math.Nextafter(v, infinity))), big.NewRat(1, 2)))
		}
	}
	for _, x := range []*big.Rat{
		power(1024), power(4000), sub(power(1024), power(970)), add(worth(most), power(969)), power(-1075), power(-4000),
		sub(power(32*api.MaxLimbs), power(0)), power(32*api.MaxLimbs - 1), power(1 - 32*api.MaxLimbs),
	} {
		l = append(l, x, neg(x))
	}
	r := rand.New(rand.NewSource(51))
	for range 1000 {
		l = append(l, big.NewRat(r.Int63n(4000)-2000, 1+r.Int63n(2000)))
		num, den := new(big.Int).Rand(r, power(1+r.Intn(1300)).Num()), new(big.Int).Rand(r, power(1+r.Intn(1300)).Num())
		l = append(l, new(big.Rat).SetFrac(num, den.Add(den, big.NewInt(1))))
	}
	return l
}

// P5.1
func TestOf(t *testing.T) {
	for _, x := range asked() {
		s, e := span.Of(of(x))
		want, code := around(x)
		is(t, fmt.Sprintf("Of(%v)", x.RatString()), s, e, want, code)
	}
}

// bad: fractions that may not be.
func bad() []api.Frac {
	one, two := api.Int{Mag: []uint32{1}}, api.Int{Mag: []uint32{2}}
	long := api.Int{Mag: make([]uint32, api.MaxLimbs+1)}
	long.Mag[api.MaxLimbs] = 1
	return []api.Frac{
		{}, {Num: one}, {Num: api.Int{Neg: true}, Den: one}, {Num: one, Den: api.Int{Neg: true, Mag: []uint32{1}}}, {Den: two}, {Num: two, Den: two},
		{Num: api.Int{Mag: []uint32{3, 0}}, Den: one}, {Num: one, Den: api.Int{Mag: []uint32{3, 0}}}, {Num: long, Den: one}, {Num: one, Den: long},
	}
}

// P5.1, P5.3: fractions that may not be.
func TestWrongFractions(t *testing.T) {
	for i, x := range bad() {
		s, e := span.Of(x)
		is(t, fmt.Sprintf("Of of wrong fraction %d", i), s, e, api.Span{}, api.ErrArg)
		for _, s := range []api.Span{to(0, 1), to(-most, most), to(1, 0)} {
			if has, e := span.Has(s, x); has || e != api.ErrArg {
				t.Errorf("Has(%v, wrong fraction %d) = %v, %v", s, i, has, e)
			}
		}
	}
}

// P5.2: the least span of what comes of the ends; that it has all the rest too is asked below.
func TestTwos(t *testing.T) {
	pairs(func(a, b api.Span) {
		for _, c := range twos() {
			s, e := c.do(a, b)
			what := fmt.Sprintf("%s(%v, %v)", c.name, a, b)
			if c.name == "Quo" && hasNought(b) {
				is(t, what, s, e, api.Span{}, api.ErrZero)
				continue
			}
			var l []*big.Rat
			for _, v := range []float64{a.Lo, a.Hi} {
				for _, w := range []float64{b.Lo, b.Hi} {
					l = append(l, c.is(new(big.Rat), worth(v), worth(w)))
				}
			}
			want, code := around(l...)
			is(t, what, s, e, want, code)
		}
	})
}

// P5.2
func TestSquare(t *testing.T) {
	ask := func(a api.Span) {
		t.Helper()
		low, high := worth(a.Lo), worth(a.Hi)
		l := []*big.Rat{mul(low, low), mul(high, high)}
		if hasNought(a) {
			l = append(l, new(big.Rat))
		}
		want, code := around(l...)
		s, e := span.Square(a)
		is(t, fmt.Sprintf("Square(%v)", a), s, e, want, code)
	}
	for _, a := range spans() {
		ask(a)
	}
	r := rand.New(rand.NewSource(52))
	for range 8000 {
		ask(near(r, r.Intn(2100)-1078))
		ask(near(r, r.Intn(30)-545)) // squares about the least float
		ask(near(r, r.Intn(10)+506)) // and about the greatest
	}
}

// root: the floats on both sides of the root of a float from 0 on.
func root(v float64) (down, up float64) {
	if v == 0 {
		return 0, 0
	}
	square := func(w float64) int { return mul(worth(w), worth(w)).Cmp(worth(v)) }
	down = math.Sqrt(v)
	for square(down) > 0 {
		down = math.Nextafter(down, 0)
	}
	if square(down) == 0 {
		return down, down
	}
	return down, math.Nextafter(down, infinity)
}

// P5.2
func TestSqrt(t *testing.T) {
	ask := func(a api.Span) {
		t.Helper()
		s, e := span.Sqrt(a)
		what := fmt.Sprintf("Sqrt(%v)", a)
		if a.Hi < 0 {
			is(t, what, s, e, api.Span{}, api.ErrArg)
			return
		}
		lo, _ := root(max(a.Lo, 0))
		_, hi := root(a.Hi)
		is(t, what, s, e, to(lo, hi), api.OK)
	}
	for _, a := range spans() {
		ask(a)
	}
	for _, a := range []api.Span{to(-1, 0), to(-1, minus0), to(-most, tiny), to(minus0, minus0), to(-tiny, -tiny), to(0, most), to(4, 9), to(4+4*eps, 9-8*eps)} {
		ask(a)
	}
	r := rand.New(rand.NewSource(53))
	for range 8000 {
		ask(near(r, r.Intn(2100)-1078))
		v, w := some(r, -530, 500), some(r, -530, 500) // every other one's square is a float
		ask(to(min(v*v, w*w), max(v*v, w*w)))
	}
}

// P5.2: what is refused at all arguments that may not be, ahead of the rest.
func TestWrongSpans(t *testing.T) {
	right := []api.Span{to(0, 0), to(-1, 1), to(1, 2), to(-2, -1), to(most, most)}
	for _, a := range wrong() {
		s, e := span.Sqrt(a)
		is(t, fmt.Sprintf("Sqrt(%v)", a), s, e, api.Span{}, api.ErrArg)
		s, e = span.Square(a)
		is(t, fmt.Sprintf("Square(%v)", a), s, e, api.Span{}, api.ErrArg)
		for _, c := range append(twos(), two{"Join", span.Join, nil}) {
			for _, b := range append(right, a, to(1, 0)) {
				s, e = c.do(a, b)
				is(t, fmt.Sprintf("%s(%v, %v)", c.name, a, b), s, e, api.Span{}, api.ErrArg)
				s, e = c.do(b, a)
				is(t, fmt.Sprintf("%s(%v, %v)", c.name, b, a), s, e, api.Span{}, api.ErrArg)
			}
		}
		for _, b := range append(right, a, to(-most, most)) {
			if span.In(a, b) || span.In(b, a) {
				t.Errorf("In of %v and %v", a, b)
			}
			for _, c := range [][2]api.Span{{a, b}, {b, a}} {
				if s, ok := span.Meet(c[0], c[1]); ok || !same(s, api.Span{}) {
					t.Errorf("Meet(%v, %v) = %v, %v", c[0], c[1], s, ok)
				}
			}
		}
		for _, x := range []*big.Rat{new(big.Rat), big.NewRat(1, 3), power(2000)} {
			if has, e := span.Has(a, of(x)); has || e != api.ErrArg {
				t.Errorf("Has(%v, %v) = %v, %v", a, x, has, e)
			}
		}
	}
}

// P5.2: ErrZero where both apply.
func TestNoughtAheadOfInfinity(t *testing.T) {
	for _, b := range []api.Span{to(0, tiny), to(-tiny, 0), to(0, 0), to(minus0, minus0), to(-1, 1), to(minus0, tiny), to(-tiny, minus0)} {
		for _, a := range []api.Span{to(most, most), to(0, 0), to(-1, 1)} {
			s, e := span.Quo(a, b)
			is(t, fmt.Sprintf("Quo(%v, %v)", a, b), s, e, api.Span{}, api.ErrZero)
		}
	}
	s, e := span.Quo(to(1, 1), to(tiny, 1))
	is(t, "1 over the least float", s, e, api.Span{}, api.ErrInf)
	s, e = span.Quo(to(tiny, most), to(most, most))
	is(t, "the greatest float over itself", s, e, to(0, 1), api.OK)
}

// P5.2: a result a hair beyond the greatest float has no least span, one a hair before it has.
func TestBeyond(t *testing.T) {
	for _, c := range []struct {
		what string
		do   func(a, b api.Span) (api.Span, api.Errno)
		a, b api.Span
		want api.Span
		code api.Errno
	}{
		{"Add", span.Add, to(most, most), to(tiny, tiny), api.Span{}, api.ErrInf},
		{"Add", span.Add, to(-most, -most), to(-tiny, 0), api.Span{}, api.ErrInf},
		{"Add", span.Add, to(most, most), to(-tiny, 0), to(0x1.ffffffffffffep1023, most), api.OK},
		{"Sub", span.Sub, to(-most, 0), to(0, tiny), api.Span{}, api.ErrInf},
		{"Sub", span.Sub, to(-most, most), to(0, 0), to(-most, most), api.OK},
		{"Mul", span.Mul, to(-most, 1), to(1, 1+eps), api.Span{}, api.ErrInf},
		{"Mul", span.Mul, to(-most, most), to(-1, 1), to(-most, most), api.OK},
		{"Mul", span.Mul, to(-tiny, tiny), to(-0.5, 0.5), to(-tiny, tiny), api.OK},
		{"Mul", span.Mul, to(tiny, tiny), to(-tiny, -tiny), to(-tiny, 0), api.OK},
		{"Quo", span.Quo, to(1, most), to(1-eps/2, 1), api.Span{}, api.ErrInf},
		{"Quo", span.Quo, to(-tiny, tiny), to(2, most), to(-tiny, tiny), api.OK},
	} {
		s, e := c.do(c.a, c.b)
		is(t, fmt.Sprintf("%s(%v, %v)", c.what, c.a, c.b), s, e, c.want, c.code)
	}
}

// P5.3
func TestHas(t *testing.T) {
	x := asked()
	for i, s := range spans() {
		l := within(s)
		for j := i % 23; j < len(x); j += 23 {
			l = append(l, x[j])
		}
		for _, v := range []float64{s.Lo, s.Hi} {
			l = append(l, add(worth(v), power(-1300)), sub(worth(v), power(-1300)))
		}
		for _, y := range l {
			want := worth(s.Lo).Cmp(y) <= 0 && y.Cmp(worth(s.Hi)) <= 0
			if has, e := span.Has(s, of(y)); has != want || e != api.OK {
				t.Fatalf("Has(%v, %v) = %v, %v", s, y, has, e)
			}
		}
	}
}

// P5.3
func TestBoth(t *testing.T) {
	pairs(func(a, b api.Span) {
		if in := span.In(a, b); in != (b.Lo <= a.Lo && a.Hi <= b.Hi) {
			t.Fatalf("In(%v, %v) = %v", a, b, in)
		}
		ends := []float64{a.Lo, a.Hi, b.Lo, b.Hi}
		want, _ := around(worth(slices.Min(ends)), worth(slices.Max(ends)))
		s, e := span.Join(a, b)
		is(t, fmt.Sprintf("Join(%v, %v)", a, b), s, e, want, api.OK)
		s, ok := span.Meet(a, b)
		if max(a.Lo, b.Lo) > min(a.Hi, b.Hi) {
			if ok || !same(s, api.Span{}) {
				t.Fatalf("Meet(%v, %v) = %v, %v", a, b, s, ok)
			}
			return
		}
		slices.Sort(ends) // what both have lies between the two in the middle
		want, _ = around(worth(ends[1]), worth(ends[2]))
		if !ok || !same(s, want) {
			t.Fatalf("Meet(%v, %v) = %v, %v", a, b, s, ok)
		}
	})
}

// P5.2, P5.3: a nought that is answered has no sign, whichever it came from.
func TestNoughts(t *testing.T) {
	noughts := []api.Span{to(0, 0), to(0, minus0), to(minus0, 0), to(minus0, minus0)}
	zero := to(0, 0)
	for _, a := range noughts {
		for _, b := range append(noughts, to(minus0, 3), to(-3, minus0)) {
			plain := to(b.Lo+0, b.Hi+0) // plus nought makes minus nought plus
			s, e := span.Add(a, b)
			is(t, "Add", s, e, plain, api.OK)
			s, e = span.Sub(b, a)
			is(t, "Sub", s, e, plain, api.OK)
			s, e = span.Join(a, b)
			is(t, "Join", s, e, plain, api.OK)
			s, e = span.Mul(b, a)
			is(t, "Mul", s, e, zero, api.OK)
			if s, ok := span.Meet(a, b); !ok || !same(s, zero) {
				t.Errorf("Meet(%v, %v) = %v, %v", a, b, s, ok)
			}
			if !span.In(a, b) {
				t.Errorf("In(%v, %v) is false", a, b)
			}
		}
		for _, b := range []api.Span{to(-2, -1), to(1, 2), to(-most, -tiny)} {
			s, e := span.Quo(a, b)
			is(t, "Quo", s, e, zero, api.OK)
		}
		s, e := span.Sqrt(a)
		is(t, "Sqrt", s, e, zero, api.OK)
		s, e = span.Square(a)
		is(t, "Square", s, e, zero, api.OK)
		if has, e := span.Has(a, of(new(big.Rat))); !has || e != api.OK {
			t.Errorf("Has(%v, 0) = %v, %v", a, has, e)
		}
	}
}

// R4: what is handed in stays as it is, its spare room too.
func TestMemory(t *testing.T) {
	for _, x := range []*big.Rat{new(big.Rat), big.NewRat(-1, 3), big.NewRat(5, 4), power(1100), neg(power(-1100))} {
		f := of(x)
		var lists, was [][]uint32
		for _, l := range []*[]uint32{&f.Num.Mag, &f.Den.Mag} {
			room := append(slices.Clone(*l), 11, 12, 13)
			*l = room[:len(*l)]
			lists, was = append(lists, room), append(was, slices.Clone(room))
		}
		span.Of(f)
		span.Has(to(-1, 1), f)
		for i := range lists {
			if !slices.Equal(lists[i], was[i]) {
				t.Errorf("Of or Has of %v has changed what it was given", x)
			}
		}
	}
}
