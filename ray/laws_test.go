package ray_test

import (
	"math/rand"
	"testing"

	"polestar/api"
	"polestar/frac"
	"polestar/ray"
)

// sure: an answer that must not be refused.
func sure[T any](x T, e api.Errno) T {
	if e != api.OK {
		panic(e)
	}
	return x
}

func mul(m, n api.Matrix) api.Matrix                { return sure(ray.Mul(m, n)) }
func back(m api.Matrix) api.Matrix                  { return sure(ray.Back(m)) }
func mirror(m api.Matrix) api.Matrix                { return sure(ray.Mirror(m)) }
func trace(m api.Matrix) api.Frac                   { return sure(ray.Trace(m)) }
func through(m api.Matrix, r api.Ray) api.Ray       { return sure(ray.Through(m, r)) }
func cross(r, s api.Ray) api.Frac                   { return sure(ray.Cross(r, s)) }
func turned(r api.Ray) api.Ray                      { return api.Ray{Y: r.Y, U: sure(frac.Sub(num(0), r.U))} }
func hold[T things](t *testing.T, s string, x, y T) { t.Helper(); is(t, s, x, api.OK, y) }

// P9.5: of matrices.
func lawsOfMatrices(t *testing.T, m, n, o api.Matrix) {
	t.Helper()
	one := ray.One()
	hold(t, "(m n) o", mul(mul(m, n), o), mul(m, mul(n, o)))
	hold(t, "m One", mul(m, one), m)
	hold(t, "One m", mul(one, m), m)
	hold(t, "Back(m) m", mul(back(m), m), one)
	hold(t, "m Back(m)", mul(m, back(m)), one)
	hold(t, "Back(m n)", back(mul(m, n)), mul(back(n), back(m)))
	hold(t, "Mirror(m n)", mirror(mul(m, n)), mul(mirror(n), mirror(m)))
	hold(t, "Back(Back(m))", back(back(m)), m)
	hold(t, "Mirror(Mirror(m))", mirror(mirror(m)), m)
	hold(t, "Trace(m n)", trace(mul(m, n)), trace(mul(n, m)))
	times := func(x api.Frac) api.Frac { return sure(frac.Mul(trace(m), x)) }
	less := func(x api.Frac) api.Frac { return sure(frac.Sub(times(x), num(1))) }
	hold(t, "m m", mul(m, m), matrix(less(m.A), times(m.B), times(m.C), less(m.D)))
	for _, x := range []api.Matrix{mul(m, n), back(m), mirror(m)} {
		if e := ray.Check(x); e != api.OK {
			t.Fatalf("an answer that may not be: %s: %v", told(x), e)
		}
	}
}

// P9.5: of rays.
func lawsOfRays(t *testing.T, m, n api.Matrix, r, s api.Ray) {
	t.Helper()
	out := through(m, r)
	hold(t, "Through of m behind n", through(mul(m, n), r), through(m, through(n, r)))
	hold(t, "Through of One", through(ray.One(), r), r)
	hold(t, "Through of Back", through(back(m), out), r)
	hold(t, "Cross behind m", cross(out, through(m, s)), cross(r, s))
	hold(t, "Cross of one ray", cross(r, r), num(0))
	hold(t, "Cross the other way round", cross(r, s), sure(frac.Sub(num(0), cross(s, r))))
	hold(t, "Through of Mirror", through(mirror(m), turned(out)), turned(r))
}

func TestLaws(t *testing.T) {
	r := rand.New(rand.NewSource(93))
	for _, bits := range []int{2, 5, 32, 64, 200} {
		for range 200 {
			m, n := someMatrix(r, bits), someMatrix(r, bits)
			lawsOfMatrices(t, m, n, someMatrix(r, bits))
			lawsOfRays(t, m, n, someRay(r, bits), someRay(r, bits))
		}
	}
	m, n := someMatrix(r, 4000), someMatrix(r, 4000)
	lawsOfMatrices(t, m, n, someMatrix(r, 4000))
	lawsOfRays(t, m, n, someRay(r, 4000), someRay(r, 4000))
}

// P0.1, P9.5: element behind element nothing is lost: the determinant stays 1, two rays keep their cross, and all comes back.
func TestLongWay(t *testing.T) {
	r := rand.New(rand.NewSource(94))
	all, first, second := ray.One(), beam(1, 2), beam(-3, 5)
	a, b := first, second
	for range 60 {
		m := someMatrix(r, 6)
		all, a, b = mul(m, all), through(m, a), through(m, b)
	}
	if e := ray.Check(all); e != api.OK {
		t.Fatalf("Check = %v", e)
	}
	hold(t, "Through of all", through(all, first), a)
	hold(t, "Through of all", through(all, second), b)
	hold(t, "Cross", cross(a, b), num(11))
	hold(t, "Back of all", through(back(all), a), first)
	hold(t, "Mirror of all", through(mirror(all), turned(b)), turned(second))
}
