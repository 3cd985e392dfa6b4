package span_test

import (
	"math/big"
	"math/rand"
	"testing"

	"polestar/api"
	"polestar/span"
)

// has: does a span have a number, by what the program says?
func has(t *testing.T, what string, s api.Span, x *big.Rat) {
	t.Helper()
	if ok, e := span.Has(s, of(x)); !ok || e != api.OK {
		t.Fatalf("%s: %v has not %v", what, s, x)
	}
}

// few: pairs of spans, fewer than pairs has, most of a size that nothing is refused.
func few(ask func(a, b api.Span)) {
	l := spans()
	for i, a := range l {
		for j := i % 211; j < len(l); j += 211 {
			ask(a, l[j])
		}
	}
	r := rand.New(rand.NewSource(54))
	for range 300 {
		ask(near(r, r.Intn(900)-450), near(r, r.Intn(900)-450))
		ask(near(r, r.Intn(20)), near(r, r.Intn(20)))
	}
}

// P5.4: of numbers that spans have, what comes of them lies in the answer.
func TestAnswersHave(t *testing.T) {
	few(func(a, b api.Span) {
		for _, c := range twos() {
			s, e := c.do(a, b)
			if e != api.OK {
				continue
			}
			for _, x := range within(a) {
				for _, y := range within(b) {
					has(t, c.name, s, c.is(new(big.Rat), x, y))
				}
			}
		}
		if s, e := span.Square(a); e == api.OK {
			for _, x := range within(a) {
				has(t, "Square", s, mul(x, x))
			}
		}
	})
}

// wider: a span that has another one, and more on either side.
func wider(r *rand.Rand, s api.Span) api.Span {
	n := r.Intn(40) - 20
	wide, e := span.Add(s, to(-float64(r.Intn(3)), float64(r.Intn(3))))
	if e == api.OK && n%2 == 0 {
		return wide
	}
	if wide, e = span.Join(s, near(r, n)); e != api.OK {
		panic(e)
	}
	return wide
}

// P5.4: what is done to spans that have a and b has what is done to a and b.
func TestWiderHaveMore(t *testing.T) {
	r := rand.New(rand.NewSource(55))
	pairs(func(a, b api.Span) {
		x, y := wider(r, a), wider(r, b)
		if !span.In(a, x) || !span.In(b, y) {
			t.Fatalf("%v and %v are not in %v and %v", a, b, x, y)
		}
		in := func(what string, s, w api.Span, e, f api.Errno) {
			t.Helper()
			if f == api.OK && (e != api.OK || !span.In(s, w)) {
				t.Fatalf("%s of %v and %v = %v, %v; of %v and %v = %v", what, a, b, s, e, x, y, w)
			}
		}
		for _, c := range append(twos(), two{"Join", span.Join, nil}) {
			s, e := c.do(a, b)
			w, f := c.do(x, y)
			in(c.name, s, w, e, f)
		}
		s, e := span.Square(a)
		w, f := span.Square(x)
		in("Square", s, w, e, f)
		s, e = span.Sqrt(a)
		w, f = span.Sqrt(x)
		if e == api.OK && (f != api.OK || !span.In(s, w)) {
			t.Fatalf("Sqrt of %v = %v; of %v = %v, %v", a, s, x, w, f)
		}
		if s, ok := span.Meet(a, b); ok {
			if w, ok := span.Meet(x, y); !ok || !span.In(s, w) {
				t.Fatalf("Meet of %v and %v = %v; of %v and %v = %v, %v", a, b, s, x, y, w, ok)
			}
		}
	})
}

// P5.4: Sqrt of Square has the sizes of all; Meet and Join are the same either way round.
func TestRootsOfSquares(t *testing.T) {
	pairs(func(a, b api.Span) {
		if s, e := span.Square(a); e == api.OK {
			s, e := span.Sqrt(s)
			if e != api.OK {
				t.Fatalf("Sqrt of Square of %v: %v", a, e)
			}
			if !span.In(sizes(a), s) {
				t.Fatalf("Sqrt of Square of %v = %v", a, s)
			}
		}
		s, ok := span.Meet(a, b)
		if w, okToo := span.Meet(b, a); !same(s, w) || ok != okToo {
			t.Fatalf("Meet(%v, %v) = %v, %v, turned round %v, %v", a, b, s, ok, w, okToo)
		}
		s, e := span.Join(a, b)
		if w, f := span.Join(b, a); !same(s, w) || e != f {
			t.Fatalf("Join(%v, %v) = %v, %v, turned round %v, %v", a, b, s, e, w, f)
		}
	})
}

// sizes: the sizes of all that a span has.
func sizes(a api.Span) api.Span {
	switch {
	case hasNought(a):
		return to(0, max(-a.Lo, a.Hi))
	case a.Hi < 0:
		return to(-a.Hi, -a.Lo)
	}
	return a
}
