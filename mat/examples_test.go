package mat_test

import (
	"math"
	"testing"

	"polestar/mat"
)

// The chapter's table of examples, row by row.

func unit[T mat.Ring[T]](zero, one T) mat.Mat[T] { return of(one, zero, zero, one) }

func TestExamplesOfMatrices(t *testing.T) {
	m := of[mat.Wrap](1, 2, 3, 4)
	is(t, "Mul", mat.Mul(m, of[mat.Wrap](5, 6, 7, 8)), of[mat.Wrap](19, 22, 43, 50))
	is(t, "Det", mat.Det(m), -2)
	is(t, "Trace", mat.Trace(m), 5)
	is(t, "Turned", mat.Turned(m), of[mat.Wrap](4, -2, -3, 1))
}

func TestExamplesOfPowersAndChains(t *testing.T) {
	one := unit[mat.Wrap](0, 1)
	is(t, "Power", mat.Power(one, of[mat.Wrap](1, 1, 1, 0), 10), of[mat.Wrap](89, 55, 55, 34))
	is(t, "Power", mat.Power(one, of[mat.Wrap](1, 1, 1, 0), 0), one)
	is(t, "Chain", mat.Chain(one), one)
	is(t, "Chain", mat.Chain(one, of[mat.Wrap](1, 1, 0, 1), of[mat.Wrap](1, 0, 1, 1)), of[mat.Wrap](1, 1, 1, 2))
}

func TestExamplesOfNumbers(t *testing.T) {
	is(t, "Add", mat.Wrap(math.MaxInt64).Add(1), math.MinInt64)
	is(t, "Mul", mat.Small(100).Mul(3), 44)
	is(t, "Neg", mat.Small(-128).Neg(), -128)
}

func TestExamplesOfWaves(t *testing.T) {
	if z := mat.Wave(1i).Mul(1i); !same(z, -1) {
		t.Errorf("Mul of i and i = %v", z)
	}
	if z := mat.Wave(1).Neg(); !same(z, mat.Wave(complex(-1, minus0))) {
		t.Errorf("Neg of 1 = %v", z)
	}
	is(t, "Like of noughts of two signs", mat.Wave(0).Like(mat.Wave(complex(minus0, 0))), false)
	is(t, "Like of no numbers", mat.Wave(complex(none, 0)).Like(mat.Wave(complex(none, 0))), true)
}
