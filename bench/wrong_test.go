package bench_test

import (
	"testing"

	"polestar/api"
	"polestar/bench"
)

// wrongElements: those that may not be: kinds that are none, signs, fractions that a kind may not have, fractions that may not be.
func wrongElements() []api.Element {
	l := []api.Element{{}}
	for _, p := range []int64{0, 1} {
		for _, q := range []int64{0, 1} {
			for _, kind := range []api.ElementKind{api.ElNone, api.ElFlip + 1, 100, 255} {
				l = append(l, element(kind, rat(p), rat(q)))
			}
		}
	}
	hair := inverse(most())
	for _, e := range []api.Element{
		space(rat(-1)), space(minus(hair)), element(api.ElSpace, rat(1), rat(1)), element(api.ElSpace, rat(0), rat(-1)), element(api.ElSpace, rat(1), hair),
		element(api.ElLens, rat(1), rat(1)), element(api.ElLens, rat(0), minus(hair)), element(api.ElLens, rat(-1), rat(-1)),
		slab(rat(-1), rat(1)), slab(minus(hair), rat(1)), slab(rat(1), rat(0)), slab(rat(0), rat(0)), slab(rat(1), rat(-1)), slab(rat(-1), rat(-1)), slab(rat(1), minus(hair)),
		element(api.ElFlip, rat(1), rat(0)), element(api.ElFlip, rat(0), rat(1)), element(api.ElFlip, rat(-1), rat(0)), element(api.ElFlip, rat(0), minus(hair)), element(api.ElFlip, rat(1), rat(1)),
	} {
		l = append(l, e)
	}
	for _, x := range wrongFracs() {
		for _, e := range []api.Element{space(rat(1)), lens(rat(1)), slab(rat(1), rat(1)), surface(rat(1), rat(1)), flip()} {
			first, second, both := e, e, e
			first.P, second.Q, both.P, both.Q = x, x, x, x
			l = append(l, first, second, both)
		}
	}
	return l
}

// may be: elements at the borders of what each kind may have.
func rightElements() []api.Element {
	l := []api.Element{space(rat(0)), lens(rat(0)), slab(rat(0), rat(1)), surface(rat(0), rat(0)), flip()}
	for _, x := range []string{"1", "1/3", "7/2"} {
		p := parse(x)
		l = append(l, space(p), lens(p), lens(minus(p)), slab(p, p), slab(rat(0), p), surface(p, p), surface(minus(p), p), surface(p, minus(p)), surface(minus(p), minus(p)), surface(rat(0), p), surface(p, rat(0)))
	}
	hair := inverse(most())
	return append(l, space(most()), space(hair), lens(minus(most())), lens(minus(hair)), slab(hair, most()), slab(most(), hair), surface(minus(most()), minus(hair)))
}

// calls: each call that takes a bench, by the error that it answers; it must be zero values else.
func calls(t *testing.T, l []api.Element, r api.Ray, want api.Errno) {
	t.Helper()
	if e := bench.Check(l); e != want {
		t.Fatalf("Check of %d elements = %v, not %v", len(l), e, want)
	}
	m, e := bench.Matrix(l)
	refused(t, "Matrix", m, e, want)
	back, e := bench.Reverse(l)
	refused(t, "Reverse", back, e, want)
	rays, e := bench.Trace(l, r)
	refused(t, "Trace", rays, e, want)
	x, e := bench.Length(l)
	refused(t, "Length", x, e, want)
	simple, e := bench.Simple(l)
	refused(t, "Simple", simple, e, want)
}

// P10.1, P10.2: each alone, and among others.
func TestWrongElements(t *testing.T) {
	for _, x := range wrongElements() {
		m, e := bench.One(x)
		refused(t, "One", m, e, api.ErrArg)
		calls(t, []api.Element{x}, beam("1 0"), api.ErrArg)
		calls(t, append(row("s 1, l 2, f"), x), beam("1 0"), api.ErrArg)
		calls(t, append([]api.Element{x}, row("u 1 -1, b 2 3")...), api.Ray{}, api.ErrArg)
	}
	for _, x := range rightElements() {
		if e := bench.Check([]api.Element{x, x}); e != api.OK {
			t.Fatalf("Check of %s = %v", told([]api.Element{x}), e)
		}
	}
}

// R2: ErrArg ahead of an answer beyond the limit.
func TestWrongAheadOfTheLimit(t *testing.T) {
	great := []api.Element{space(most()), space(most()), lens(most()), lens(most())}
	for _, x := range wrongElements()[:24] {
		calls(t, append(great[:4:4], x), beam("1 1"), api.ErrArg)
	}
	for _, x := range wrongFracs() {
		for _, r := range []api.Ray{{Y: x, U: num(1)}, {Y: num(1), U: x}, {Y: x, U: x}} {
			for _, l := range [][]api.Element{nil, row("s 1"), great} {
				rays, e := bench.Trace(l, r)
				refused(t, "Trace", rays, e, api.ErrArg)
			}
		}
	}
}

// P10.7: matrices that may not be.
func TestWrongMatrices(t *testing.T) {
	l := []api.Matrix{{}, matrix("2 0 0 2"), matrix("1 1 1 1"), matrix("0 0 0 0"), matrix("-1 0 0 1"), matrix("0 1 1 0"), matrix("1 0 0 2"), matrix("2 3 1 1")}
	for _, x := range wrongFracs() {
		for i := range 4 {
			m := matrix("1 0 0 1")
			*places(&m)[i] = x
			l = append(l, m)
		}
	}
	p := power(32*api.MaxLimbs-1, 0)
	l = append(l, made[api.Matrix](rats{p, p, p, p}), made[api.Matrix](rats{rat(1), inverse(p), inverse(p), rat(1)}))
	for _, m := range l {
		parts, e := bench.Parts(m)
		refused(t, "Parts", parts, e, api.ErrArg)
	}
}
