package orbit

import (
	"encoding/binary"
	"math/big"
	"math/rand"
	"slices"
	"testing"

	"polestar/large"
)

// What no call shows: that rays which are told in parts are no farther off than is told beside them, and that this is as little as it should be.

// units: a whole number as the library has it.
func units(x large.Int) *big.Rat {
	told := x.Int()
	var bytes []byte
	for _, limb := range slices.Backward(told.Mag) {
		bytes = binary.BigEndian.AppendUint32(bytes, limb)
	}
	n := new(big.Int).SetBytes(bytes)
	if told.Neg {
		n.Neg(n)
	}
	return new(big.Rat).SetInt(n)
}

func asRat(x large.Frac) *big.Rat {
	num := x.Mul(large.Ratio(x.Den(), large.Of(1)))
	return new(big.Rat).Quo(units(num.Times(large.Of(1))), units(x.Den()))
}

// someFrac: of numbers of up to so many bits, of both signs, at times nought.
func someFrac(r *rand.Rand, bits int) large.Frac {
	num, den := large.Of(0), large.Of(0)
	for range r.Intn(bits/30 + 2) {
		num = num.Shift(30).Add(large.Of(r.Int63n(1 << 30)))
		den = den.Shift(30).Add(large.Of(r.Int63n(1 << 30)))
	}
	if r.Intn(2) == 0 {
		num = num.Neg()
	}
	return large.Ratio(num.Shift(-r.Intn(30)), den.Shift(-r.Intn(30)).Add(large.Of(1)))
}

// somePath: of a trip whose trace is t, in parts of the greater one of height and steepness at the start, so that these are 1 at most.
func somePath(r *rand.Rand, t large.Frac, bits int) path {
	a := someFrac(r, bits)
	b := someFrac(r, bits).Abs().Add(large.Ratio(large.Of(1), large.Of(7)))
	d := t.Sub(a)
	trip := large.Matrix{A: a, B: b, C: a.Mul(d).Sub(large.Whole(1)).Quo(b), D: d}
	start := large.Ray{Y: someFrac(r, bits), U: someFrac(r, bits).Add(large.Ratio(large.Of(1), large.Of(5)))}
	most := size(start).Mul(large.Ratio(large.Of(1+r.Int63n(5)), large.Of(1)))
	if most.Sign() == 0 {
		most = large.Whole(1)
	}
	return pathOf(trip, large.Ray{Y: start.Y.Quo(most), U: start.U.Quo(most)})
}

// traces: whole ones and others, on both sides of 2 and of -2, a hair beside them too.
func traces(r *rand.Rand) (l []large.Frac) {
	for n := range int64(9) {
		l = append(l, large.Whole(n-4), large.Ratio(large.Of(2*n-9), large.Of(2)), large.Ratio(large.Of(n-4), large.Of(3)))
	}
	for _, bits := range []int{3, 10, 20, 40, 80, 300} {
		hair := large.Ratio(large.Of(1), large.Of(1).Shift(bits).Sub(large.Of(1)))
		for _, two := range []large.Frac{large.Whole(2), large.Whole(-2)} {
			l = append(l, two.Add(hair), two.Sub(hair))
		}
		l = append(l, someFrac(r, bits), someFrac(r, bits))
	}
	return l
}

// farOff: how far off a number is, in parts.
func farOff(told large.Int, exact large.Frac, one large.Int) *big.Rat {
	off := new(big.Rat).Sub(units(told), new(big.Rat).Mul(asRat(exact), units(one)))
	return off.Abs(off)
}

// follow: is each of so many rays no farther off than it is told to be, and is it told rightly whether it is farther than 1?
func follow(t *testing.T, p path, bits, most int) {
	t.Helper()
	exact := p.start
	for n, at := range p.rays(bits) {
		if n == most {
			break
		}
		off := new(big.Rat).Mul(units(at.off), big.NewRat(int64(n)+1, 1))
		if farOff(at.y.now, exact.Y, at.one).Cmp(off) > 0 || farOff(at.u.now, exact.U, at.one).Cmp(off) > 0 {
			t.Fatalf("behind %d trips with %d bits a ray is off by more than %s parts", n, bits, off.FloatString(0))
		}
		wasFar := size(exact).Cmp(large.Whole(1)) > 0
		if far, sure := at.farther(n); sure && far != wasFar {
			t.Fatalf("behind %d trips with %d bits: farther than 1: %v", n, bits, far)
		} else if !sure && off.Sign() == 0 {
			t.Fatalf("behind %d trips: nothing is off, and it is not sure", n)
		}
		if wasFar != p.farther(n) {
			t.Fatalf("behind %d trips, exactly: farther than 1: %v", n, !wasFar)
		}
		exact = p.trip.Through(exact)
	}
}

func TestNear(t *testing.T) {
	r := rand.New(rand.NewSource(131))
	for i := range 8 {
		for _, trace := range traces(r) {
			follow(t, somePath(r, trace, 1+i*12), []int{1, 3, 8, 20, 64, 128}[r.Intn(6)], 24)
		}
	}
}

// Nothing is off, however many trips there are, if the trace is a whole number.
func TestNearExactly(t *testing.T) {
	r := rand.New(rand.NewSource(132))
	for n := range int64(9) {
		p := somePath(r, large.Whole(n-4), 60)
		for n, at := range p.rays(128) {
			if at.off.Sign() != 0 {
				t.Fatal("a ray is off")
			}
			if n%16 != 0 || n > 100 {
				continue
			}
			all, _ := p.trip.Power(n, large.Any)
			exact := all.Through(p.start)
			if farOff(at.y.now, exact.Y, at.one).Sign() != 0 || farOff(at.u.now, exact.U, at.one).Sign() != 0 {
				t.Fatalf("behind %d trips a ray is off", n)
			}
		}
	}
}

// Where light stays, 4096 trips make no more of it than 2^28 parts, as long as the ray is not farther than 1.
func TestNearStays(t *testing.T) {
	r := rand.New(rand.NewSource(133))
	for _, trace := range traces(r) {
		if trace.Abs().Cmp(large.Whole(2)) >= 0 {
			continue
		}
		p := somePath(r, trace, 40)
		for n, at := range p.rays(128) {
			if far, sure := at.farther(n); far || !sure { // beyond 1 nothing is asked of it
				break
			}
			if off := at.off.Mul(large.Of(int64(n) + 1)); off.Bits() > 28 {
				t.Fatalf("behind %d trips a ray is off by %d bits", n, off.Bits())
			}
		}
	}
}

// growth: not below the greater root of x x - |t| x + 1, nor below 1, and not above it by more than 2^-14.
func TestGrowth(t *testing.T) {
	r := rand.New(rand.NewSource(134))
	at := func(x, t *big.Rat) int {
		sum := new(big.Rat).Mul(x, new(big.Rat).Sub(x, t))
		return sum.Add(sum, big.NewRat(1, 1)).Sign()
	}
	for _, trace := range append(traces(r), large.Ratio(large.Of(1).Shift(5000).Add(large.Of(1)), large.Of(3))) {
		size := asRat(trace.Abs())
		told := asRat(growth(trace))
		half := new(big.Rat).Quo(size, big.NewRat(2, 1))
		if told.Cmp(big.NewRat(1, 1)) < 0 || told.Cmp(half) < 0 || at(told, size) < 0 {
			t.Fatalf("growth of %s = %s", size.FloatString(9), told.FloatString(9))
		}
		less := new(big.Rat).Sub(told, big.NewRat(1, 1<<14))
		if less.Cmp(big.NewRat(1, 1)) > 0 && less.Cmp(half) > 0 && at(less, size) > 0 {
			t.Fatalf("growth of %s = %s is too great", size.FloatString(9), told.FloatString(9))
		}
	}
}
