package bench_test

import (
	"testing"

	"polestar/api"
	"polestar/bench"
)

// The chapter's table of examples, row by row.

func TestExamplesOfCheck(t *testing.T) {
	wrong := row("f")
	wrong[0].Q = num(1)
	nothing := row("l 1")
	nothing[0].P = api.Frac{}
	if e := bench.Check(nil); e != api.OK {
		t.Errorf("Check of none = %v", e)
	}
	for _, l := range [][]api.Element{row("s -1"), row("b 1 0"), wrong, nothing} {
		if e := bench.Check(l); e != api.ErrArg {
			t.Errorf("Check of %s = %v", told(l), e)
		}
	}
}

func TestExamplesOfMatrices(t *testing.T) {
	for _, c := range [][2]string{
		{"s 2", "1 2 0 1"}, {"l 1/2", "1 0 -1/2 1"}, {"b 3 3/2", "1 2 0 1"}, {"u 1/2 -1/2", "1 0 1/4 1"}, {"f", "-1 0 0 -1"},
	} {
		m, e := bench.One(row(c[0])[0])
		is(t, "One of "+c[0], m, e, matrix(c[1]))
	}
	for _, c := range [][2]string{{"s 1/2, l 2", "1 1/2 -2 0"}, {"", "1 0 0 1"}, {"l 2, s 1/2", "0 1/2 -2 1"}} {
		m, e := bench.Matrix(row(c[0]))
		is(t, "Matrix of "+c[0], m, e, matrix(c[1]))
	}
}

func TestExamplesOfBenches(t *testing.T) {
	rays, e := bench.Trace(row("s 1/2, l 2"), beam("0 1"))
	is(t, "Trace", rays, e, []api.Ray{beam("1/2 1"), beam("1/2 0")})
	l, e := bench.Reverse(row("s 1/2, l 2"))
	is(t, "Reverse", l, e, row("l 2, s 1/2"))
	x, e := bench.Length(row("s 1, l 5, b 3 3/2"))
	is(t, "Length", x, e, num(4))
	for _, c := range [][2]string{
		{"s 1, b 2 2, l 1, s 0, u 1 1, f, l 0, f, s 3", "s 2, l 2, s 3"}, {"l 1, f, s 0, f, l -1", ""}, {"f, s 1, f", "f, s 1, f"},
	} {
		l, e := bench.Simple(row(c[0]))
		is(t, "Simple of "+c[0], l, e, row(c[1]))
	}
}

func TestExamplesOfParts(t *testing.T) {
	for _, c := range [][2]string{
		{"0 1 -1 0", "l 1, s 1, l 1"}, {"1 0 -2 1", "l 2"}, {"1 0 0 1", ""}, {"-1 0 0 -1", "f"}, {"-1 0 3 -1", "f, l 3"},
		{"-2 0 0 -1/2", "s 1, l 3/2, s 2, l 3/4"}, {"2 0 0 1/2", "f, s 1, l 3/2, s 2, l 3/4"}, {"1 -1 0 1", "f, l 2, s 1, l 2"},
	} {
		l, e := bench.Parts(matrix(c[0]))
		is(t, "Parts of "+c[0], l, e, row(c[1]))
	}
	l, e := bench.Parts(matrix("2 0 0 2"))
	refused(t, "Parts", l, e, api.ErrArg)
}
