package ray_test

import (
	"math/big"
	"testing"

	"polestar/api"
	"polestar/ray"
)

// asked: is an answer what is wanted, and is that the one that the limit asks for?
func asked[T things](t *testing.T, what string, got T, e api.Errno, want rats, limit api.Errno) {
	t.Helper()
	fits(t, what, got, e, want)
	if e != limit {
		t.Fatalf("%s = %s, %v, not %v", what, told(got), e, limit)
	}
}

// edge is two fractions whose sum, or one more than whose product, is the greatest number or fraction that may be, or the least one beyond.
type edge struct {
	x, y *big.Rat
	e    api.Errno
}

func sums() []edge {
	return []edge{
		{plus(most(), rat(-1)), rat(1), api.OK},
		{most(), rat(1), api.ErrLimit},
		{minus(most()), rat(0), api.OK},
		{minus(most()), rat(-1), api.ErrLimit},
		{inverse(power(32*api.MaxLimbs-2, 0)), big.NewRat(1, 3), api.OK},
		{inverse(power(32*api.MaxLimbs-2, 0)), big.NewRat(1, 5), api.ErrLimit}, // by the denominator alone
	}
}

func products() []edge {
	const half = 16 * api.MaxLimbs
	return []edge{
		{rat(2), power(2*half-1, -1), api.OK},
		{power(half, -1), power(half, 1), api.ErrLimit},
		{rat(-1), power(2*half, -1), api.OK},
		{minus(power(half, 0)), power(half, 0), api.OK},
		{minus(power(half, 1)), power(half, 1), api.ErrLimit},
		{inverse(minus(power(half, -1))), inverse(power(half, 1)), api.OK},
		{inverse(minus(power(half, 0))), inverse(power(half, 0)), api.ErrLimit}, // by the denominator alone
	}
}

func space(x *big.Rat) rats { return rats{rat(1), x, rat(0), rat(1)} }
func lens(x *big.Rat) rats  { return rats{rat(1), rat(0), x, rat(1)} }

// R2: one number beyond the limit in any one place of a matrix refuses all of it.
func TestLimitOfMul(t *testing.T) {
	ask := func(place string, m, n rats, limit api.Errno) {
		t.Helper()
		got, e := ray.Mul(made[api.Matrix](m), made[api.Matrix](n))
		asked(t, "Mul, at the limit in "+place, got, e, behind(m, n), limit)
	}
	for _, c := range products() {
		ask("A", space(c.x), lens(c.y), c.e)
		ask("D", lens(c.y), space(c.x), c.e)
	}
	for _, c := range sums() {
		ask("B", space(c.x), space(c.y), c.e)
		ask("C", lens(c.x), lens(c.y), c.e)
	}
}

func TestLimitOfThrough(t *testing.T) {
	ask := func(place string, m, r rats, limit api.Errno) {
		t.Helper()
		got, e := ray.Through(made[api.Matrix](m), made[api.Ray](r))
		asked(t, "Through, at the limit in "+place, got, e, rats{dot(m[0], r[0], m[1], r[1]), dot(m[2], r[0], m[3], r[1])}, limit)
	}
	for _, c := range products() {
		ask("Y", space(c.x), rats{rat(1), c.y}, c.e)
		ask("U", lens(c.x), rats{c.y, rat(1)}, c.e)
	}
	for _, c := range sums() {
		ask("Y", space(rat(1)), rats{c.x, c.y}, c.e)
		ask("U", lens(rat(1)), rats{c.x, c.y}, c.e)
	}
}

func TestLimitOfTraceAndCross(t *testing.T) {
	root := times(rat(3), power(16*api.MaxLimbs-1, 0))
	small, ninth := inverse(power(32*api.MaxLimbs-2, 0)), big.NewRat(1, 9) // 1 less their product is a product of two that may be
	for _, c := range []struct {
		m rats
		e api.Errno
	}{
		{rats{most(), rat(1), rat(-1), rat(0)}, api.OK},
		{rats{rat(1), rat(1), plus(most(), rat(-1)), most()}, api.ErrLimit},
		{rats{minus(most()), rat(1), plus(most(), rat(-1)), rat(-1)}, api.ErrLimit},
		{rats{small, times(minus(ninth), plus(root, rat(-1))), times(small, plus(root, rat(1))), ninth}, api.ErrLimit},
	} {
		got, e := ray.Trace(made[api.Matrix](c.m))
		asked(t, "Trace, at the limit", got, e, rats{plus(c.m[0], c.m[3])}, c.e)
	}
	for _, c := range sums() {
		got, e := ray.Cross(made[api.Ray](rats{rat(1), c.x}), made[api.Ray](rats{rat(-1), c.y}))
		asked(t, "Cross, at the limit", got, e, rats{plus(c.x, c.y)}, c.e)
	}
}

// R7: what stands on the way has no limit: the products are beyond it, their sums are not.
func TestNoLimitOnTheWay(t *testing.T) {
	m := steep()
	if e := ray.Check(m); e != api.OK {
		t.Fatalf("Check = %v", e)
	}
	back, e := ray.Back(m)
	is(t, "Back", back, e, matrix(m.D, of(minus(worth(m.B))), of(minus(worth(m.C))), m.A))
	one, e := ray.Mul(m, back)
	is(t, "Mul", one, e, whole(1, 0, 0, 1))
	one, e = ray.Mul(back, m)
	is(t, "Mul", one, e, whole(1, 0, 0, 1))
	r, s := api.Ray{Y: m.A, U: m.C}, api.Ray{Y: m.B, U: m.D} // what becomes of 1, 0 and of 0, 1
	first, e := ray.Through(back, r)
	is(t, "Through", first, e, beam(1, 0))
	first, e = ray.Through(back, s)
	is(t, "Through", first, e, beam(0, 1))
	cross, e := ray.Cross(r, s)
	is(t, "Cross", cross, e, num(1))
	cross, e = ray.Cross(s, r)
	is(t, "Cross", cross, e, num(-1))
	trip, e := ray.Mul(m, m)
	refused(t, "Mul", trip, e, api.ErrLimit)
}

// R2: a matrix at the limit may be turned round.
func TestTurnedAtTheLimit(t *testing.T) {
	for _, x := range []*big.Rat{most(), minus(most()), inverse(most())} {
		for _, l := range []rats{space(x), lens(x), {x, rat(1), rat(-1), rat(0)}} {
			m := made[api.Matrix](l)
			got, e := ray.Mirror(m)
			is(t, "Mirror", got, e, made[api.Matrix](rats{l[3], l[1], l[2], l[0]}))
			got, e = ray.Back(m)
			is(t, "Back", got, e, made[api.Matrix](rats{l[3], minus(l[1]), minus(l[2]), l[0]}))
		}
	}
}
