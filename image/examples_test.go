package image_test

import (
	"testing"

	"polestar/api"
)

// The chapter's table of examples, row by row.
func TestExamples(t *testing.T) {
	const lens, space, both = "1 0 -1 1", "1 1 0 1", "1 1 -1 0"
	for i, c := range []struct {
		do         call
		m, x, want string
	}{
		{power, lens, "0", "1"}, {power, space, "0", "0"},
		{planes, lens, "0", "0 0"}, {planes, both, "0", "1 0"}, {planes, space, "0", ""},
		{imaged, lens, "2", "2 -1"}, {imaged, lens, "1/2", "-1 2"}, {imaged, lens, "1", ""},
		{imaged, space, "3", "-4 1"}, {imaged, lens, "0", "0 1"},
		{sharp, lens, "0", "1"},
		{stop, space, "1/2", "1/2"}, {stop, "1 -2 0 1", "1", "1/2"}, {stop, lens, "1", ""},
	} {
		got, e := c.do(matrix(c.m), num(c.x))
		fits(t, "row "+string(rune('a'+i)), got, e, row(c.want))
	}
	got, e := sharp(matrix(space), num("0"))
	refused(t, "Sharp of the space: false", got, e, api.OK)
	got, e = sharp(matrix("1 0 0 2"), num("0"))
	refused(t, "Sharp of 1, 0, 0, 2", got, e, api.ErrArg)
	got, e = stop(matrix(space), num("-1"))
	refused(t, "Stop of the space, -1", got, e, api.ErrArg)
}

// P11.3: the third example of DOC.md: a thing 2 ahead of a lens of the power 1 stands on its head 2 behind; and things on all sides of its focus.
func TestThingsAheadOfALens(t *testing.T) {
	for _, c := range [][2]string{
		{"2", "2 -1"}, {"3", "3/2 -1/2"}, {"3/2", "3 -2"}, {"1", ""}, {"3/4", "-3 4"}, {"0", "0 1"}, {"-1", "1/2 1/2"}, {"-3", "3/4 1/4"},
	} {
		got, e := imaged(matrix("1 0 -1 1"), num(c[0]))
		fits(t, "Image of the lens and "+c[0], got, e, row(c[1]))
	}
}

// P11.3: C nought, as behind spaces and flips; D nought, as a focal length behind a lens; B nought.
func TestNoughts(t *testing.T) {
	for _, c := range [][3]string{
		{"1 0 0 1", "5", "-5 1"}, {"-1 0 0 -1", "5", "-5 -1"}, {"-2 3 0 -1/2", "1", "2 -2"}, {"2 0 0 1/2", "-1", "4 2"},
		{"1 1 -1 0", "0", ""}, {"1 1 -1 0", "1", "2 -1"}, {"1 1 -1 0", "-1", "0 1"}, {"0 1 -1 0", "0", ""}, {"0 1 -1 0", "-1/2", "-2 2"},
		{"1/3 0 5 3", "0", "0 1/3"}, {"1/3 0 5 3", "-3/5", ""}, {"1/3 0 5 3", "-1", "-1/6 -1/2"},
	} {
		got, e := imaged(matrix(c[0]), num(c[1]))
		fits(t, "Image of "+c[0]+" and "+c[1], got, e, row(c[2]))
	}
}

// P11.5: an opening of nought lets the flat ray pass, and no other one.
func TestOpenings(t *testing.T) {
	for _, c := range [][3]string{
		{"1 1 0 1", "0", "0"}, {"1 -2 0 1", "0", "0"}, {"1 -2 0 1", "3", "3/2"}, {"2 3 1 2", "5", "5/3"}, {"1 1/2 -2 0", "1", "2"}, {"1 -1/2 2 0", "1", "2"},
		{"1 0 0 1", "0", ""}, {"-2 0 5 -1/2", "1", ""},
	} {
		got, e := stop(matrix(c[0]), num(c[1]))
		fits(t, "Stop of "+c[0]+" and "+c[1], got, e, row(c[2]))
	}
}
