package round_test

import (
	"math"
	"math/big"
	"testing"

	"polestar/api"
	"polestar/round"
)

// The chapter's table of examples, row by row.

// row: a call of two floats, and what it answers.
type row struct{ a, b, down, up float64 }

func rows(t *testing.T, what string, do func(a, b float64) (x, y float64), l []row) {
	t.Helper()
	for _, c := range l {
		down, up := do(c.a, c.b)
		both(t, what, down, up, c.down, c.up)
	}
}

func TestExamplesOfSums(t *testing.T) {
	rows(t, "Add", round.Add, []row{
		{1, eps / 4, 1, 1 + eps}, {1, -eps / 4, 1 - eps/2, 1}, {1, 2, 3, 3},
		{most, 1, most, infinity}, {-most, -most, -infinity, -most},
		{3, -3, 0, 0}, {minus0, minus0, minus0, minus0},
	})
	rows(t, "Sub", round.Sub, []row{{most, -infinity, infinity, infinity}, {infinity, infinity, none, none}})
}

func TestExamplesOfProducts(t *testing.T) {
	rows(t, "Mul", round.Mul, []row{{tiny, 0.5, 0, tiny}, {-tiny, 0.5, -tiny, minus0}, {0, -3, minus0, minus0}, {0, infinity, none, none}})
	third := math.Float64frombits(0x3fd5555555555555)
	rows(t, "Quo", round.Quo, []row{
		{1, 3, third, math.Float64frombits(0x3fd5555555555556)},
		{1, 0, infinity, infinity}, {-1, infinity, minus0, minus0}, {0, 0, none, none},
	})
}

func TestExamplesOfRoots(t *testing.T) {
	low, high := math.Float64frombits(0x3ff6a09e667f3bcc), math.Float64frombits(0x3ff6a09e667f3bcd)
	for _, c := range [][3]float64{{2, low, high}, {4, 2, 2}, {minus0, minus0, minus0}, {-1, none, none}} {
		down, up := round.Sqrt(c[0])
		both(t, "Sqrt", down, up, c[1], c[2])
	}
}

func TestExamplesOfNext(t *testing.T) {
	for _, c := range []struct {
		v    float64
		up   bool
		want float64
	}{{0, true, tiny}, {-tiny, true, minus0}, {most, true, infinity}, {infinity, false, most}} {
		w := round.Next(c.v, c.up)
		twice(t, "Next", w, w, c.want)
	}
}

func TestExamplesOfTwo(t *testing.T) {
	rows(t, "Two", round.Two, []row{{1, eps / 4, 1, eps / 4}, {1, 1, 2, 0}, {most, most, infinity, 0}})
}

func TestExamplesOfFrac(t *testing.T) {
	low, high := math.Float64frombits(0x3fd5555555555555), math.Float64frombits(0x3fd5555555555556)
	for _, c := range []struct {
		x        *big.Rat
		down, up float64
	}{
		{big.NewRat(1, 3), low, high}, {big.NewRat(-1, 3), -high, -low},
		{power(1024), most, infinity}, {power(-1075), 0, tiny}, {new(big.Rat), 0, 0},
	} {
		down, up, errno := round.Frac(of(c.x))
		both(t, "Frac", down, up, c.down, c.up)
		if errno != api.OK {
			t.Errorf("Frac(%v): %v", c.x, errno)
		}
	}
}
