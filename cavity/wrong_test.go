package cavity_test

import (
	"testing"

	"polestar/api"
	"polestar/cavity"
)

// wrongElements: those that may not be: kinds that are none, signs, fractions that a kind may not have, fractions that may not be.
func wrongElements() []api.Element {
	l := []api.Element{{}}
	for _, kind := range []api.ElementKind{api.ElNone, api.ElFlip + 1, 100, 255} {
		l = append(l, element(kind, rat(0), rat(0)), element(kind, rat(1), rat(1)))
	}
	hair := inverse(most())
	l = append(l,
		space(rat(-1)), space(minus(hair)), element(api.ElSpace, rat(1), rat(1)), element(api.ElSpace, rat(0), minus(hair)),
		element(api.ElLens, rat(1), rat(1)), element(api.ElLens, rat(0), hair),
		slab(rat(-1), rat(1)), slab(minus(hair), rat(1)), slab(rat(1), rat(0)), slab(rat(0), rat(0)), slab(rat(1), minus(hair)), slab(rat(-1), rat(-1)),
		element(api.ElFlip, rat(1), rat(0)), element(api.ElFlip, rat(0), rat(1)), element(api.ElFlip, hair, hair),
	)
	for _, x := range wrongFracs() {
		for _, e := range []api.Element{space(rat(1)), lens(rat(1)), slab(rat(1), rat(1)), surface(rat(1), rat(1)), flip()} {
			first, second, both := e, e, e
			first.P, second.Q, both.P, both.Q = x, x, x, x
			l = append(l, first, second, both)
		}
	}
	return l
}

// P12.1: each alone, among others, ahead of and behind an answer that is beyond the limit.
func TestWrongElements(t *testing.T) {
	great := []api.Element{space(most()), space(most()), lens(most()), lens(most())}
	for _, x := range wrongElements() {
		for _, l := range [][]api.Element{{x}, append(row("s 1, l 2, f"), x), append([]api.Element{x}, row("u 1 -1, b 2 3")...), append(great[:4:4], x), append([]api.Element{x}, great...)} {
			bothWays(func(what string, ring bool) {
				got, e := trip(l, ring)
				refused(t, what+"elements that may not be", got, e, api.ErrArg)
			})
		}
	}
	bothWays(func(what string, ring bool) {
		got, e := trip(great, ring)
		refused(t, what+"great elements", got, e, api.ErrLimit)
	})
}

// wrongMatrices: those that may not be: a fraction in each place, and determinants that are not 1, a hair beside it too.
func wrongMatrices() []api.Matrix {
	l := []api.Matrix{{}}
	for _, x := range wrongFracs() {
		for place := range 4 {
			for _, text := range []string{"1 0 0 1", "-1 0 0 -1", "2 3 1 2", "0 1 -1 1", "1 2 0 1"} {
				m := matrix(text)
				*places(&m)[place] = x
				l = append(l, m)
			}
		}
		l = append(l, api.Matrix{A: x, B: x, C: x, D: x})
	}
	for _, text := range []string{
		"1 1 1 1", "0 0 0 0", "1 0 0 -1", "-1 0 0 1", "0 1 1 0", "2 0 0 2", "-2 0 0 -2", "1 0 0 2", "2 3 1 1", "0 1 -1/2 0", "2 0 0 0", "0 0 0 2", "1/2 0 0 1/2", "3 0 0 1",
	} {
		l = append(l, matrix(text))
	}
	hair, p := inverse(most()), power(32*api.MaxLimbs-1, 0)
	for _, m := range []rats{
		{rat(1), hair, hair, rat(1)}, {rat(1), rat(0), rat(0), less(rat(1), hair)}, {less(rat(1), hair), rat(0), rat(0), less(rat(1), hair)}, {most(), rat(0), rat(0), most()},
		{p, plus(p, rat(-1)), p, p}, {p, p, p, p}, // products beyond the limit
	} {
		l = append(l, made(m))
	}
	return l
}

// P12.2.
func TestWrongMatrices(t *testing.T) {
	for _, m := range wrongMatrices() {
		if kind, e := cavity.Kind(m); kind != api.StNone || e != api.ErrArg {
			t.Fatalf("Kind of %s = %d, %v", told(apart(m)...), kind, e)
		}
	}
}

// refusedBoth: do Two and Factors refuse these with ErrArg?
func refusedBoth(t *testing.T, p, q, length api.Frac) {
	t.Helper()
	got, e := two(p, q, length)
	refused(t, "Two", got, e, api.ErrArg)
	got, e = factors(p, q, length)
	refused(t, "Factors", got, e, api.ErrArg)
}

// P12.3: curvatures and lengths that may not be, and lengths below nought; ahead of an answer beyond the limit.
func TestWrongMirrors(t *testing.T) {
	others := []api.Frac{num("0"), num("1"), num("-1/2"), of(most()), of(minus(most())), of(inverse(most()))}
	for _, x := range wrongFracs() {
		for _, y := range others {
			for _, z := range others {
				refusedBoth(t, x, y, z)
				refusedBoth(t, y, x, z)
				refusedBoth(t, y, z, x)
			}
			refusedBoth(t, x, x, y)
			refusedBoth(t, x, y, x)
			refusedBoth(t, y, x, x)
		}
		refusedBoth(t, x, x, x)
	}
	for _, length := range (rats{rat(-1), parse("-1/3"), minus(most()), minus(inverse(most()))}) {
		for _, p := range others {
			for _, q := range others {
				refusedBoth(t, p, q, of(length))
			}
		}
	}
	got, e := two(of(most()), of(most()), of(most()))
	refused(t, "Two of great ones", got, e, api.ErrLimit)
	got, e = factors(of(most()), of(most()), of(most()))
	refused(t, "Factors of great ones", got, e, api.ErrLimit)
}

// R1: lists far above the limit, and of noughts alone.
func TestLongLists(t *testing.T) {
	one := num("1")
	for _, l := range [][]uint32{make([]uint32, 1<<20), append(make([]uint32, 1<<20), 1)} {
		for _, x := range []api.Frac{{Num: api.Int{Mag: l}, Den: one.Num}, {Num: one.Num, Den: api.Int{Mag: l}}, {Num: api.Int{Neg: true, Mag: l}, Den: api.Int{Mag: l}}} {
			refusedBoth(t, x, one, one)
			refusedBoth(t, one, x, one)
			refusedBoth(t, one, one, x)
			if kind, e := cavity.Kind(api.Matrix{A: one, B: x, C: num("0"), D: one}); kind != api.StNone || e != api.ErrArg {
				t.Fatalf("Kind = %d, %v", kind, e)
			}
			bothWays(func(what string, ring bool) {
				got, e := trip([]api.Element{{Kind: api.ElLens, P: x, Q: num("0")}}, ring)
				refused(t, what+"a long lens", got, e, api.ErrArg)
			})
		}
	}
}
