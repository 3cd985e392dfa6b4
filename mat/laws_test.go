package mat_test

import (
	"math"
	"math/rand"
	"testing"

	"polestar/mat"
)

// exact: a ring of numbers that wrap round.
type exact[T any] interface {
	mat.Ring[T]
	comparable
}

// P8.5
func laws[T exact[T]](t *testing.T, zero, one T, some func() mat.Mat[T]) {
	for range 20000 {
		k, m, n := some(), some(), some()
		is(t, "Mul, associative", mat.Mul(mat.Mul(k, m), n), mat.Mul(k, mat.Mul(m, n)))
		is(t, "Det of a product", mat.Det(mat.Mul(m, n)), mat.Det(m).Mul(mat.Det(n)))
		is(t, "Trace of m behind n", mat.Trace(mat.Mul(m, n)), mat.Trace(mat.Mul(n, m)))
		d := mat.Det(m)
		is(t, "m behind Turned(m)", mat.Mul(m, mat.Turned(m)), of(d, zero, zero, d))
		is(t, "Turned(m) behind m", mat.Mul(mat.Turned(m), m), of(d, zero, zero, d))
		is(t, "Mul by one", mat.Mul(unit(zero, one), m), m)
	}
}

func chains[T exact[T]](t *testing.T, one mat.Mat[T], some func() mat.Mat[T]) {
	r := rand.New(rand.NewSource(86))
	for range 2000 {
		var l []mat.Mat[T]
		for range r.Intn(12) {
			l = append(l, some())
		}
		cut := r.Intn(len(l) + 1)
		is(t, "Chain of two lists", mat.Chain(one, l...), mat.Mul(mat.Chain(one, l[cut:]...), mat.Chain(one, l[:cut]...)))
	}
}

func powers[T exact[T]](t *testing.T, one mat.Mat[T], some func() mat.Mat[T]) {
	r := rand.New(rand.NewSource(87))
	for i := range 6000 {
		m := some()
		j := r.Uint64() >> uint(r.Intn(64))
		k := r.Uint64() >> uint(r.Intn(64))
		switch {
		case i%3 == 0:
			k = math.MaxUint64 - j // their sum is the greatest one
		case j+k < j:
			k = 0
		}
		is(t, "Power of a sum", mat.Mul(mat.Power(one, m, j), mat.Power(one, m, k)), mat.Power(one, m, j+k))
	}
}

func TestLawsOfWraps(t *testing.T) {
	some, one := wraps(88), unit[mat.Wrap](0, 1)
	laws(t, 0, 1, some)
	chains(t, one, some)
	powers(t, one, some)
}

func TestLawsOfSmalls(t *testing.T) {
	some, one := smalls(89), unit[mat.Small](0, 1)
	laws(t, 0, 1, some)
	chains(t, one, some)
	powers(t, one, some)
}
