package cplx_test

import (
	"math"
	"testing"

	"polestar/api"
	"polestar/cplx"
)

// The chapter's table of examples, row by row.

func TestExamplesOfTwos(t *testing.T) {
	is(t, "Mul", cplx.Mul(3-4i, 1+2i), 11+2i)
	is(t, "Quo", cplx.Quo(1+1i, 1i), 1-1i)
	is(t, "Mul", cplx.Mul(complex(infinity, 0), 1), complex(infinity, none))
	is(t, "Quo", cplx.Quo(1, 0), complex(none, none))
}

func TestExamplesOfTurns(t *testing.T) {
	is(t, "Conj", cplx.Conj(1), complex(1, minus0))
	is(t, "Turn", cplx.Turn(1, 1), complex(minus0, 1))
	is(t, "Turn", cplx.Turn(1, -1), complex(0, -1))
	is(t, "Turn", cplx.Turn(1, 6), complex(-1, minus0))
}

func TestExamplesOfAbs(t *testing.T) {
	root := math.Float64frombits(0x3ff6a09e667f3bcc)
	for _, c := range []struct {
		z        complex128
		down, up float64
	}{
		{3 - 4i, 5, 5}, {1 + 1i, root, math.Float64frombits(0x3ff6a09e667f3bcd)}, {complex(minus0, 0), 0, 0},
		{complex(infinity, none), infinity, infinity}, {complex(none, -infinity), infinity, infinity}, {complex(most, most), most, infinity},
	} {
		if down, up := cplx.Abs(c.z); !alike(down, c.down) || !alike(up, c.up) {
			t.Errorf("Abs(%v) = %v, %v", c.z, down, up)
		}
	}
}

func TestExamplesOfRoots(t *testing.T) {
	for _, c := range []struct{ z, want complex128 }{
		{-4, 2i}, {complex(-4, minus0), complex(0, -2)}, {3 + 4i, 2 + 1i}, {complex(0, minus0), complex(0, minus0)}, {2i, 1 + 1i},
	} {
		is(t, "Sqrt", cplx.Sqrt(c.z), c.want)
	}
}

func TestExamplesOfPowers(t *testing.T) {
	for n, want := range []complex128{1, 1i, -1, complex(minus0, -1)} {
		is(t, "Power", cplx.Power(1i, uint(n)), want)
	}
}

func TestExamplesOfTexts(t *testing.T) {
	for _, c := range []struct {
		s string
		z complex128
	}{{"3ff0000000000000c000000000000000", 1 - 2i}, {"7ff80000000000010000000000000000", complex(none, 0)}} {
		if s := cplx.Text(c.z); s != c.s {
			t.Errorf("Text(%v) = %q", c.z, s)
		}
		if z, e := cplx.Parse(c.s); !same(z, c.z) || e != api.OK {
			t.Errorf("Parse(%q) = %v, %v", c.s, z, e)
		}
	}
	for _, s := range []string{"3ff0000000000000c00000000000000", "7ff8000000000000" + "0000000000000000"} {
		if z, e := cplx.Parse(s); !same(z, 0) || e != api.ErrForm {
			t.Errorf("Parse(%q) = %v, %v", s, z, e)
		}
	}
}

func TestExamplesOfSame(t *testing.T) {
	if cplx.Same(0, complex(0, minus0)) {
		t.Error("Same of noughts of two signs")
	}
	if !cplx.Same(complex(none, 1), complex(math.Float64frombits(1<<64-1), 1)) {
		t.Error("Same of two no numbers")
	}
}
