package gauss_test

import (
	"math"
	"math/rand"
	"testing"

	"polestar/api"
	"polestar/frac"
	"polestar/gauss"
)

// floats: noughts, the least and the greatest ones, borders, and others of all exponents; of both signs.
func floats() []float64 {
	l := []float64{0, 1, 0.1, 1.5, math.Pi, 1e300, 1e-300, math.MaxFloat64, math.SmallestNonzeroFloat64, 0x1p-1022, 1 << 53}
	r := rand.New(rand.NewSource(32))
	for range 60 {
		l = append(l, math.Float64frombits(uint64(r.Intn(2047))<<52|r.Uint64()>>12))
	}
	for _, v := range l {
		l = append(l, -v, math.Copysign(v, -1))
	}
	return l
}

// sameBits: are two floats the same, bit by bit?
func sameBits(v, w complex128) bool {
	return math.Float64bits(real(v)) == math.Float64bits(real(w)) && math.Float64bits(imag(v)) == math.Float64bits(imag(w))
}

// P3.5, P3.7: there and back; noughts come back without a sign.
func TestThereAndBack(t *testing.T) {
	for _, re := range floats() {
		for _, im := range floats() {
			z, e := gauss.FromComplex(complex(re, im))
			is(t, "FromComplex", z, e, number(sure(frac.FromFloat(re)), sure(frac.FromFloat(im))))
			v, e := gauss.Complex(z)
			if e != api.OK || !sameBits(v, complex(re+0, im+0)) { // plus nought makes minus nought plus
				t.Fatalf("Complex of FromComplex of %v, %v = %v, %v", re, im, v, e)
			}
		}
	}
}

// P3.5
func TestFromComplexWrong(t *testing.T) {
	for _, bits := range []uint64{0x7ff << 52, 0xfff << 52, 0x7ff<<52 | 1, 0x7ff8 << 48, 1<<64 - 1} {
		bad := math.Float64frombits(bits)
		for _, v := range []float64{0, math.Copysign(0, -1), 1.5, math.MaxFloat64, bad, math.NaN(), math.Inf(-1)} {
			z, e := gauss.FromComplex(complex(bad, v))
			refused(t, "FromComplex", z, e, api.ErrInf)
			z, e = gauss.FromComplex(complex(v, bad))
			refused(t, "FromComplex", z, e, api.ErrInf)
		}
	}
}

// P3.5: numbers that are no floats: part by part what frac says.
func TestComplex(t *testing.T) {
	ask := func(z api.Gauss) {
		t.Helper()
		v, e := gauss.Complex(z)
		re, f := frac.Float(z.Re)
		im, g := frac.Float(z.Im)
		if f == api.ErrInf || g == api.ErrInf {
			if v != 0 || e != api.ErrInf {
				t.Fatalf("Complex of %s = %v, %v", told(z), v, e)
			}
		} else if e != api.OK || !sameBits(v, complex(re, im)) {
			t.Fatalf("Complex of %s = %v, %v", told(z), v, e)
		}
	}
	great := sub(power(1024, 0), power(970, 0)) // the first one that is as near to 2^1024
	less := sub(great, inverse(power(9, 0)))
	l := []api.Frac{
		small(0, 1), small(-1, 3), great, less, minus(great), minus(less), most(), inverse(most()), minus(inverse(top())),
		inverse(power(1075, 0)), inverse(power(1075, -1)), minus(inverse(power(1075, 0))), quo(most(), top()),
	}
	for _, re := range l {
		for _, im := range l {
			ask(number(re, im))
		}
	}
	r := rand.New(rand.NewSource(33))
	for i := range 2000 {
		ask(someNumber(r, 3+i))
	}
}

// P3.5: what may not be stands ahead of what is beyond the floats, in either place.
func TestComplexWrong(t *testing.T) {
	for i, z := range wrong() {
		if v, e := gauss.Complex(z); v != 0 || e != api.ErrArg {
			t.Errorf("number %d that may not be: %v, %v", i, v, e)
		}
	}
}
