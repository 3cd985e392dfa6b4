package ray_test

import (
	"testing"

	"polestar/api"
	"polestar/ray"
)

// behind: m behind n.
func behind(m, n rats) rats {
	return rats{dot(m[0], n[0], m[1], n[2]), dot(m[0], n[1], m[1], n[3]), dot(m[2], n[0], m[3], n[2]), dot(m[2], n[1], m[3], n[3])}
}

// P9.1: all that have the determinant 1 may be, however great the products of it are.
func TestCheck(t *testing.T) {
	for _, m := range matrices() {
		if e := ray.Check(m); e != api.OK {
			t.Fatalf("Check of %s = %v", told(m), e)
		}
	}
}

// P9.2: against the library's fractions.
func TestMul(t *testing.T) {
	pairs(func(m, n api.Matrix) {
		got, e := ray.Mul(m, n)
		fits(t, "Mul", got, e, behind(worths(m), worths(n)))
	})
}

// P9.2, P9.3: what becomes of one matrix.
func TestOfOneMatrix(t *testing.T) {
	for _, m := range matrices() {
		l := worths(m)
		got, e := ray.Back(m)
		is(t, "Back", got, e, made[api.Matrix](rats{l[3], minus(l[1]), minus(l[2]), l[0]}))
		got, e = ray.Mirror(m)
		is(t, "Mirror", got, e, made[api.Matrix](rats{l[3], l[1], l[2], l[0]}))
		trace, e := ray.Trace(m)
		fits(t, "Trace", trace, e, rats{plus(l[0], l[3])})
	}
}

// P9.4: against the library's fractions.
func TestThrough(t *testing.T) {
	rays := rays()
	for i, m := range matrices() {
		for j := i % 9; j < len(rays); j += 9 {
			a, b := worths(m), worths(rays[j])
			got, e := ray.Through(m, rays[j])
			fits(t, "Through", got, e, rats{dot(a[0], b[0], a[1], b[1]), dot(a[2], b[0], a[3], b[1])})
		}
	}
}

// P9.4: against the library's fractions.
func TestCross(t *testing.T) {
	for _, r := range rays() {
		for _, s := range rays() {
			a, b := worths(r), worths(s)
			got, e := ray.Cross(r, s)
			fits(t, "Cross", got, e, rats{dot(a[0], b[1], minus(b[0]), a[1])})
		}
	}
}
