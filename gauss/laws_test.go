package gauss_test

import (
	"math/rand"
	"testing"

	"polestar/api"
	"polestar/gauss"
)

// The calls of which the laws speak, where nothing is refused.
func plus(x, y api.Gauss) api.Gauss   { return sure(gauss.Add(x, y)) }
func less(x, y api.Gauss) api.Gauss   { return sure(gauss.Sub(x, y)) }
func times(x, y api.Gauss) api.Gauss  { return sure(gauss.Mul(x, y)) }
func broken(x, y api.Gauss) api.Gauss { return sure(gauss.Quo(x, y)) }
func conj(x api.Gauss) api.Gauss      { return sure(gauss.Conj(x)) }
func around(x api.Frac) api.Gauss     { return sure(gauss.Unit(x)) }

// square: the norm, as a number without a second part.
func square(x api.Gauss) api.Gauss { return number(sure(gauss.Norm(x)), small(0, 1)) }

// law: are both sides the same?
func law(t *testing.T, what string, x, y api.Gauss) {
	t.Helper()
	is(t, what, x, gauss.Check(x), y)
}

// P3.7: of any three numbers.
func reckoningLaws(t *testing.T, x, y, z api.Gauss) {
	law(t, "the sum in another order", plus(x, y), plus(y, x))
	law(t, "the product in another order", times(x, y), times(y, x))
	law(t, "sums put together otherwise", plus(plus(x, y), z), plus(x, plus(y, z)))
	law(t, "products put together otherwise", times(times(x, y), z), times(x, times(y, z)))
	law(t, "the product through the sum", times(x, plus(y, z)), plus(times(x, y), times(x, z)))
	law(t, "Sub undoes Add", less(plus(x, y), y), x)
	if !isNought(y) {
		law(t, "Quo undoes Mul", broken(times(x, y), y), x)
		law(t, "Mul undoes Quo", times(broken(x, y), y), x)
	}
	law(t, "the norm of a product", square(times(x, y)), times(square(x), square(y)))
	law(t, "times the mirrored one", times(x, conj(x)), square(x))
	law(t, "mirrored twice", conj(conj(x)), x)
	law(t, "Parse of Text", sure(gauss.Parse(sure(gauss.Text(x)))), x)
}

// P3.7: of any two fractions.
func circleLaws(t *testing.T, x, y api.Frac) {
	law(t, "the norm of Unit", square(around(x)), gauss.Of(1, 0))
	law(t, "Unit of the other sign", around(minus(x)), conj(around(x)))
	if both := mul(x, y); !sameFrac(both, small(1, 1)) {
		law(t, "Unit times Unit", times(around(x), around(y)), around(quo(add(x, y), sub(small(1, 1), both))))
	}
	if !sameFrac(x, small(0, 1)) {
		law(t, "Unit of x times that of 1/x: half a turn", times(around(x), around(inverse(x))), gauss.Of(-1, 0))
	}
}

func TestLaws(t *testing.T) {
	ask := func(x, y, z api.Gauss) {
		reckoningLaws(t, x, y, z)
		circleLaws(t, x.Re, y.Im)
	}
	r := rand.New(rand.NewSource(35))
	for _, bits := range []int{2, 8, 32, 64, 200} {
		for range 150 {
			ask(someNumber(r, bits), someNumber(r, bits), someNumber(r, bits))
		}
	}
	ask(someNumber(r, 4000), someNumber(r, 4000), someNumber(r, 4000))
	l := edges()
	for i, z := range l {
		ask(z, l[(5*i+1)%len(l)], l[(7*i+2)%len(l)])
	}
}
