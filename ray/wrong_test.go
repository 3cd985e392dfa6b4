package ray_test

import (
	"math/big"
	"testing"

	"polestar/api"
	"polestar/ray"
)

// wrongMatrices: those that may not be: a fraction in each place, and determinants that are not 1, a hair beside it too.
func wrongMatrices() []api.Matrix {
	l := []api.Matrix{{}}
	for _, x := range wrongFracs() {
		for place := range 4 {
			for _, m := range []api.Matrix{whole(1, 0, 0, 1), whole(2, 3, 1, 2), whole(0, 1, -1, 5)} {
				*places(&m)[place] = x
				l = append(l, m)
			}
		}
		l = append(l, matrix(x, x, x, x))
	}
	for _, c := range [][4]int64{
		{1, 1, 1, 1}, {0, 0, 0, 0}, {1, 0, 0, -1}, {-1, 0, 0, 1}, {0, 1, 1, 0}, {2, 0, 0, 2}, {1, 0, 0, 2}, {2, 3, 1, 1}, {1, 1, -1, 1},
		{1 << 62, 1, 1, 1 << 62}, {0, 0, 0, 1}, {1, 0, 0, 0}, {3, 1, 1, 1}, {2, 1, 2, 2},
	} {
		l = append(l, whole(c[0], c[1], c[2], c[3]))
	}
	hair, p := inverse(most()), power(32*api.MaxLimbs-1, 0)
	for _, m := range []rats{
		{rat(1), hair, hair, rat(1)}, {rat(1), hair, minus(hair), rat(1)}, {over(most(), p), rat(0), rat(0), rat(1)},
		{rat(1), rat(0), rat(0), plus(rat(1), hair)}, {most(), rat(1), rat(-1), rat(1)}, {most(), rat(0), rat(0), most()},
		{p, plus(p, rat(-1)), p, p}, {p, p, p, p}, {plus(p, rat(1)), p, p, plus(p, rat(-1))}, // products beyond the limit
		{big.NewRat(1, 2), rat(0), rat(0), rat(1)}, {big.NewRat(2, 3), rat(0), rat(0), big.NewRat(3, 4)},
	} {
		l = append(l, made[api.Matrix](m))
	}
	return l
}

// wrongRays: a fraction that may not be in either place, and in both.
func wrongRays() []api.Ray {
	var l []api.Ray
	for _, x := range wrongFracs() {
		l = append(l, api.Ray{Y: x, U: num(0)}, api.Ray{Y: num(1), U: x}, api.Ray{Y: x, U: of(most())}, api.Ray{Y: x, U: x})
	}
	return l
}

// P9.1 to P9.4: a matrix that may not be is refused everywhere, ahead of an answer that would be beyond the limit.
func TestWrongMatrices(t *testing.T) {
	others := []api.Matrix{whole(1, 0, 0, 1), made[api.Matrix](space(most())), steep(), {}}
	steepest := made[api.Ray](rats{most(), most()})
	for _, m := range wrongMatrices() {
		if e := ray.Check(m); e != api.ErrArg {
			t.Fatalf("Check of %v = %v", m, e)
		}
		for _, n := range others {
			got, e := ray.Mul(m, n)
			refused(t, "Mul of a wrong one and another", got, e, api.ErrArg)
			got, e = ray.Mul(n, m)
			refused(t, "Mul of another and a wrong one", got, e, api.ErrArg)
		}
		got, e := ray.Mul(m, m)
		refused(t, "Mul of two wrong ones", got, e, api.ErrArg)
		got, e = ray.Back(m)
		refused(t, "Back", got, e, api.ErrArg)
		got, e = ray.Mirror(m)
		refused(t, "Mirror", got, e, api.ErrArg)
		x, e := ray.Trace(m)
		refused(t, "Trace", x, e, api.ErrArg)
		for _, r := range []api.Ray{beam(0, 0), steepest, {}} {
			s, e := ray.Through(m, r)
			refused(t, "Through", s, e, api.ErrArg)
		}
	}
}

// P9.4: a ray that may not be, likewise.
func TestWrongRays(t *testing.T) {
	steepest := made[api.Ray](rats{most(), most()})
	for _, r := range wrongRays() {
		for _, m := range []api.Matrix{whole(1, 0, 0, 1), steep()} {
			s, e := ray.Through(m, r)
			refused(t, "Through", s, e, api.ErrArg)
		}
		for _, s := range []api.Ray{beam(0, 0), steepest, {}, r} {
			x, e := ray.Cross(r, s)
			refused(t, "Cross of a wrong one and another", x, e, api.ErrArg)
			x, e = ray.Cross(s, r)
			refused(t, "Cross of another and a wrong one", x, e, api.ErrArg)
		}
	}
}

// R1: lists far above the limit, and of noughts alone.
func TestLongLists(t *testing.T) {
	for _, l := range [][]uint32{make([]uint32, 1<<20), append(make([]uint32, 1<<20), 1)} {
		for _, x := range []api.Frac{{Num: api.Int{Mag: l}, Den: num(1).Num}, {Num: num(1).Num, Den: api.Int{Mag: l}}, {Num: api.Int{Neg: true, Mag: l}, Den: api.Int{Mag: l}}} {
			m := matrix(num(1), x, num(0), num(1))
			got, e := ray.Mul(m, m)
			refused(t, "Mul", got, e, api.ErrArg)
			cross, e := ray.Cross(api.Ray{Y: x, U: x}, beam(0, 0))
			refused(t, "Cross", cross, e, api.ErrArg)
		}
	}
}
