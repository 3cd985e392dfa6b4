package frac_test

import (
	"math"
	"math/big"
	"math/rand"
	"testing"

	"polestar/api"
	"polestar/frac"
)

// floats: of all exponents, about the borders of each, and others.
func floats() []float64 {
	l := []float64{0, 1, 0.1, 0.5, 1.5, math.Pi, 1e100, 1e-100, math.MaxFloat64, math.SmallestNonzeroFloat64, 3 * math.SmallestNonzeroFloat64}
	for n := uint64(0); n < 2047; n++ {
		for _, m := range []uint64{0, 1, 1 << 51, 1<<52 - 2, 1<<52 - 1} {
			l = append(l, math.Float64frombits(n<<52|m))
		}
	}
	r := rand.New(rand.NewSource(26))
	for range 3000 {
		l = append(l, math.Float64frombits(uint64(r.Intn(2047))<<52|r.Uint64()>>12))
	}
	return l
}

// nearest: is the float that is nearest to x this one, whose bits are told; if e is ErrInf, is there none?
func nearest(t *testing.T, x *big.Rat, bits uint64, e api.Errno) {
	t.Helper()
	if v, got := frac.Float(of(x)); math.Float64bits(v) != bits || got != e {
		t.Fatalf("Float(%v) = %v (%x), %v, not %x, %v", x, v, math.Float64bits(v), got, bits, e)
	}
}

// P2.5, P2.7: there and back, of both signs.
func TestFromFloat(t *testing.T) {
	for _, v := range floats() {
		for _, v := range []float64{v, -v} {
			x, e := frac.FromFloat(v)
			fits(t, "FromFloat", x, e, new(big.Rat).SetFloat64(v))
			nearest(t, worth(x), math.Float64bits(v+0), api.OK) // plus nought makes minus nought plus
		}
	}
	for _, bits := range []uint64{0x7ff << 52, 0xfff << 52, 0x7ff<<52 | 1, 0xfff<<52 | 1, 0x7ff8 << 48, 1<<64 - 1, 1<<63 - 1} {
		x, e := frac.FromFloat(math.Float64frombits(bits))
		refused(t, "FromFloat", x, e, api.ErrInf)
	}
}

// P2.5: between a float and the next one: below the middle, there, above it. The float behind the greatest one is 2^1024.
func TestFloatTies(t *testing.T) {
	for _, v := range floats() {
		bits := math.Float64bits(v)
		low := new(big.Rat).SetFloat64(v)
		high := over(power(1024, 0), big.NewInt(1))
		if bits+1 < 0x7ff<<52 {
			high.SetFloat64(math.Float64frombits(bits + 1))
		}
		middle := new(big.Rat).Add(low, high)
		middle.Mul(middle, big.NewRat(1, 2))
		least := over(big.NewInt(1), power(1200, 0))
		between(t, new(big.Rat).Sub(middle, least), bits)
		between(t, middle, bits+bits%2)
		between(t, new(big.Rat).Add(middle, least), bits+1)
		between(t, new(big.Rat).Add(low, least), bits)
		between(t, new(big.Rat).Sub(high, least), bits+1)
	}
}

// between: is x nearest to the float with these bits, and with its other sign to that with the other sign?
func between(t *testing.T, x *big.Rat, bits uint64) {
	t.Helper()
	e := api.OK
	if bits == 0x7ff<<52 {
		bits, e = 0, api.ErrInf
	}
	nearest(t, x, bits, e)
	if bits != 0 { // a nought is plus nought
		bits |= 1 << 63
	}
	nearest(t, new(big.Rat).Neg(x), bits, e)
}

// P2.5: against the library, of fractions that are no floats, whose numbers are of like sizes and unlike ones.
func TestFloat(t *testing.T) {
	r := rand.New(rand.NewSource(27))
	for range 8000 {
		num, den := sized(r, 1+r.Intn(1300)), sized(r, 1+r.Intn(1300))
		if den.Sign() == 0 {
			continue
		}
		x := over(num, den)
		v, _ := x.Float64()
		if math.IsInf(v, 0) {
			nearest(t, x, 0, api.ErrInf)
		} else {
			nearest(t, x, math.Float64bits(v+0), api.OK)
		}
	}
}

// P2.5: beyond all floats, and below them.
func TestFloatFar(t *testing.T) {
	one := big.NewInt(1)
	for _, n := range []*big.Int{power(1024, 0), power(1024, 1), power(1025, 0), power(4000, 3), most(), other()} {
		between(t, over(n, one), 0x7ff<<52)
		between(t, over(n, big.NewInt(1)), 0x7ff<<52)
	}
	for _, n := range []*big.Int{power(1075, 0), power(1075, 1), power(1076, 0), power(5000, 7), most(), other()} {
		between(t, over(one, n), 0)
	}
	between(t, over(one, power(1075, -1)), 1)
	between(t, over(most(), other()), 0x4000000000000000)
	between(t, over(other(), most()), 0x3fe0000000000000)
	between(t, over(power(1024, -1), one), 0x7ff<<52)
	between(t, over(new(big.Int).Sub(power(1024, -1), power(970, 0)), one), 0x7fefffffffffffff)
	between(t, new(big.Rat), 0)
	for i, x := range wrong() {
		if v, e := frac.Float(x); v != 0 || e != api.ErrArg {
			t.Errorf("fraction %d that may not be: %v, %v", i, v, e)
		}
	}
}
