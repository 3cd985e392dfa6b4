package cavity_test

import (
	"testing"

	"polestar/api"
	"polestar/cavity"
)

// The chapter's table of examples, row by row.

func TestExamplesOfTrips(t *testing.T) {
	got, e := trip(row("s 1/2, l 2"), true)
	is(t, "Trip round", got, e, list("1 1/2 -2 0")...)
	got, e = trip(row("s 1/2, l 2"), false)
	is(t, "Trip forth and back", got, e, list("-1 0 -4 -1")...)
	bothWays(func(what string, ring bool) {
		got, e := trip(nil, ring)
		is(t, what+"no elements", got, e, list("1 0 0 1")...)
		got, e = trip(row("s -1"), ring)
		refused(t, what+"s -1", got, e, api.ErrArg)
	})
}

func TestExamplesOfKinds(t *testing.T) {
	isKind(t, matrix("0 1 -1 1"), api.StStable)
	isKind(t, matrix("-1 0 0 -1"), api.StNeutral)
	isKind(t, matrix("1 2 0 1"), api.StEdge)
	isKind(t, matrix("2 3 1 2"), api.StUnstable)
	isKind(t, matrix("-1 0 -4 -1"), api.StEdge)
	if kind, e := cavity.Kind(api.Matrix{}); kind != api.StNone || e != api.ErrArg {
		t.Errorf("Kind of the zero value = %d, %v", kind, e)
	}
}

func TestExamplesOfMirrors(t *testing.T) {
	for _, c := range [][2]string{{"1 1 1", "-1 0 0 -1"}, {"1/2 1/2 1", "-1 1 -1 0"}, {"0 0 1", "1 2 0 1"}} {
		x := list(c[0])
		got, e := two(of(x[0]), of(x[1]), of(x[2]))
		is(t, "Two of "+c[0], got, e, list(c[1])...)
	}
	got, e := factors(num("1"), num("1/2"), num("1"))
	is(t, "Factors of 1, 1/2, 1", got, e, list("0 1/2")...)
	got, e = factors(num("0"), num("0"), num("7"))
	is(t, "Factors of 0, 0, 7", got, e, list("1 1")...)
	got, e = two(num("1"), num("1"), num("-1"))
	refused(t, "Two of 1, 1, -1", got, e, api.ErrArg)
}

// The second example of DOC.md: two mirrors of no curvature, of 1 and of 1/2, what they make of light and its Kind.
func TestExampleOfTheWhole(t *testing.T) {
	for _, c := range []struct {
		curvature string
		want      api.Stability
	}{{"0", api.StEdge}, {"1", api.StNeutral}, {"1/2", api.StStable}} {
		m, e := cavity.Two(num(c.curvature), num(c.curvature), num("1"))
		if e != api.OK {
			t.Fatal(e)
		}
		isKind(t, m, c.want)
	}
}
