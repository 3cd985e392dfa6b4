package ray_test

import (
	"testing"

	"polestar/api"
	"polestar/ray"
)

// The chapter's table of examples, row by row.

func TestExamplesOfMatrices(t *testing.T) {
	half := quo(1, 2)
	m, e := ray.Mul(whole(1, 0, -2, 1), matrix(num(1), half, num(0), num(1)))
	lens := matrix(num(1), half, num(-2), num(0)) // a lens behind a space
	is(t, "Mul", m, e, lens)
	m, e = ray.Back(lens)
	is(t, "Back", m, e, matrix(num(0), quo(-1, 2), num(2), num(1)))
	m, e = ray.Mirror(lens)
	is(t, "Mirror", m, e, matrix(num(0), half, num(-2), num(1)))
	x, e := ray.Trace(lens)
	is(t, "Trace", x, e, num(1))
}

func TestExamplesOfRays(t *testing.T) {
	lens := matrix(num(1), quo(1, 2), num(-2), num(0))
	r, e := ray.Through(lens, beam(0, 1))
	is(t, "Through", r, e, api.Ray{Y: quo(1, 2), U: num(0)})
	r, e = ray.Through(lens, beam(1, 0))
	is(t, "Through", r, e, beam(1, -2))
	x, e := ray.Cross(beam(1, 0), beam(0, 1))
	is(t, "Cross", x, e, num(1))
	x, e = ray.Cross(beam(1, 2), beam(2, 4))
	is(t, "Cross", x, e, num(0))
}

func TestExamplesOfErrors(t *testing.T) {
	for _, m := range []api.Matrix{whole(1, 1, 1, 1), {}} {
		if e := ray.Check(m); e != api.ErrArg {
			t.Errorf("Check = %v", e)
		}
	}
	m, e := ray.Mul(ray.One(), api.Matrix{})
	refused(t, "Mul of One and the zero value", m, e, api.ErrArg)
	r, e := ray.Through(whole(1, 0, 0, 1), api.Ray{})
	refused(t, "Through of the zero value", r, e, api.ErrArg)
}

// P9.1: One may be and changes no ray; a flip turns each round.
func TestOne(t *testing.T) {
	is(t, "One", ray.One(), api.OK, whole(1, 0, 0, 1))
	if e := ray.Check(ray.One()); e != api.OK {
		t.Errorf("Check of One = %v", e)
	}
	r, e := ray.Through(ray.One(), beam(0, 0))
	is(t, "Through of the ray 0, 0", r, e, beam(0, 0))
	r, e = ray.Through(whole(-1, 0, 0, -1), beam(3, -4))
	is(t, "Through of a flip", r, e, beam(-3, 4))
}
