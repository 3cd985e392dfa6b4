package orbit_test

import (
	"testing"

	"polestar/api"
	"polestar/cavity"
	"polestar/orbit"
)

// The chapter's table of examples, row by row.

func TestExamplesOfTrips(t *testing.T) {
	m := matrix("2 3 1 2")
	got, e := trips(m, 2)
	is(t, "Power of 2", got, e, list("7 12 4 7")...)
	got, e = trips(m, 0)
	is(t, "Power of 0", got, e, list("1 0 0 1")...)
	got, e = trips(m, -1)
	refused(t, "Power of -1", got, e, api.ErrArg)
	got, e = trips(m, 4097)
	refused(t, "Power of 4097", got, e, api.ErrLimit)
	got, e = after(m, theRay("1 0"), 2)
	is(t, "After", got, e, list("7 4")...)
}

func TestExamplesOfForms(t *testing.T) {
	for _, r := range []string{"1 0", "7 4"} {
		got, e := form(matrix("2 3 1 2"), theRay(r))
		is(t, "Form of "+r, got, e, rat(1))
	}
}

func TestExamplesOfStays(t *testing.T) {
	for _, c := range []struct {
		m, r string
		want bool
	}{
		{"0 1 -1 0", "3 4", true}, {"-1 0 0 -1", "3 4", true},
		{"1 2 0 1", "3 0", true}, {"1 2 0 1", "3 1/1000", false}, {"1 0 5 1", "3 0", false}, {"1 0 5 1", "0 3", true},
		{"2 0 0 1/2", "1 0", false}, {"2 0 0 1/2", "0 1", true}, {"2 0 0 1/2", "0 0", true},
	} {
		isStays(t, matrix(c.m), theRay(c.r), c.want)
	}
}

func TestExamplesOfBounds(t *testing.T) {
	got, e := bound(matrix("0 1 -1 0"), theRay("3 4"))
	is(t, "Bound of a stable one", got, e, rat(25))
	got, e = bound(matrix("1 2 0 1"), theRay("3 0"))
	is(t, "Bound on the edge", got, e, rat(9))
	got, e = bound(matrix("2 0 0 1/2"), theRay("1 0"))
	refused(t, "Bound of what does not stay", got, e, api.ErrLight)
}

func TestExamplesOfLeaves(t *testing.T) {
	m, r := matrix("2 3 1 2"), theRay("1 0")
	leavesAt(t, m, r, num("5"), 2)
	leavesAt(t, m, r, num("1"), 1)
	leavesAt(t, m, r, num("1/2"), 0)
	leavesAt(t, m, r, num("-1"), 0)
	leavesNever(t, matrix("1 2 0 1"), theRay("0 1"), num("8192"))
	leavesAt(t, matrix("1 2 0 1"), theRay("0 1"), num("8191"), 4096)
	leavesNever(t, matrix("0 1 -1 0"), theRay("3 4"), num("4"))
	leavesAt(t, matrix("0 1 -1 0"), theRay("3 4"), num("3"), 0)
}

func TestExamplesThatMayNotBe(t *testing.T) {
	refusedAll(t, matrix("2 0 0 2"), theRay("1 0"), num("1"))
}

// The second and the tenth example of DOC.md.
func TestExamplesOfTheWhole(t *testing.T) {
	trip, e := cavity.Two(num("1/2"), num("1/2"), num("1"))
	if e != api.OK {
		t.Fatal(e)
	}
	got, e := trips(trip, 3)
	is(t, "three trips", got, e, list("1 0 0 1")...)
	got, e = after(trip, theRay("5/7 -3"), 3)
	is(t, "a ray behind three trips", got, e, list("5/7 -3")...)
	leavesAt(t, matrix("2 3 1 2"), theRay("1 0"), num("5"), 2)
	if stays, e := orbit.Stays(matrix("2 3 1 2"), theRay("1 0")); stays || e != api.OK {
		t.Errorf("Stays = %v, %v", stays, e)
	}
}
