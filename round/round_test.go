package round_test

import (
	"math"
	"math/big"
	"math/rand"
	"testing"

	"polestar/round"
)

// P4.1: against the library's fractions; the own answer where there is no exact result.
func TestTwos(t *testing.T) {
	pairs(func(a, b float64) {
		for _, c := range twos() {
			down, up := c.do(a, b)
			if x := c.exact(a, b); x == nil {
				twice(t, c.name, down, up, c.own(a, b))
			} else {
				about(t, c.name, down, up, c.own(a, b), against(x))
			}
		}
	})
}

// P4.1: products and quotients among the least floats, many of them halfway between two.
func TestHalves(t *testing.T) {
	r := rand.New(rand.NewSource(41))
	for range 4000 {
		n := 1 + r.Intn(52)
		odd := math.Ldexp(float64(r.Uint64()>>(64-n)|1), -600)
		last := 474 + r.Intn(n+3)
		down, up := round.Mul(odd, math.Ldexp(1, -last))
		about(t, "Mul", down, up, math.Ldexp(odd, -last), against(new(big.Rat).Mul(worth(odd), power(-last))))
		down, up = round.Quo(odd, -math.Ldexp(1, last))
		about(t, "Quo", down, up, math.Ldexp(-odd, -last), against(neg(new(big.Rat).Mul(worth(odd), power(-last)))))
	}
}

// P4.1: what loses as little as may be: it is far below the least float where the result still is not.
func TestLittleLost(t *testing.T) {
	const x, xx = 1 + eps, 1 + 2*eps // x times x is xx and eps eps
	for n := -1074; n <= 1023; n++ {
		half := n / 2
		a, b := math.Ldexp(x, half), math.Ldexp(x, n-half)
		square := new(big.Rat).Mul(worth(a), worth(b))
		down, up := round.Mul(a, b)
		about(t, "Mul", down, up, a*b, against(square))
		if n < -1022 {
			continue
		}
		c := math.Ldexp(xx, n)
		down, up = round.Quo(c, b)
		both(t, "Quo", down, up, math.Nextafter(a, 0), a)
		down, up = round.Quo(c, -b)
		both(t, "Quo", down, up, -a, -math.Nextafter(a, 0))
		if n%2 == 0 {
			down, up = round.Sqrt(c)
			both(t, "Sqrt", down, up, math.Nextafter(a, 0), a)
		}
	}
}

// root: where a float is, seen from the root of a, which is not below nought.
func root(a float64) func(v float64) int {
	return func(v float64) int {
		switch {
		case math.IsInf(v, 1):
			return 1
		case v < 0:
			return -1
		}
		return new(big.Rat).Mul(worth(v), worth(v)).Cmp(worth(a))
	}
}

// P4.1
func TestSqrt(t *testing.T) {
	ask := func(a float64) {
		t.Helper()
		down, up := round.Sqrt(a)
		if own := math.Sqrt(a); !finite(a) || a <= 0 {
			twice(t, "Sqrt", down, up, own)
		} else {
			about(t, "Sqrt", down, up, own, root(a))
		}
	}
	for _, a := range edges() {
		ask(a)
		ask(a * a)
		ask(math.Nextafter(a*a, 0))
		ask(math.Nextafter(a*a, infinity))
	}
	r := rand.New(rand.NewSource(42))
	for range 20000 {
		a := some(r, -1080, 1023)
		ask(a)
		ask(math.Abs(a))
		s := some(r, -540, 511) // every other one's square is a float
		ask(s * s)
		ask(math.Nextafter(s*s, 0))
		ask(math.Nextafter(s*s, infinity))
	}
}

// place: a float's place among all, both noughts at one.
func place(v float64) int64 {
	size := int64(math.Float64bits(v) &^ (1 << 63))
	if math.Signbit(v) {
		return -size
	}
	return size
}

// P4.2
func TestNext(t *testing.T) {
	ask := func(v float64) {
		t.Helper()
		for _, up := range []bool{true, false} {
			step, end := int64(1), infinity
			if !up {
				step, end = -1, -infinity
			}
			w := round.Next(v, up)
			switch {
			case math.IsNaN(v), v == end:
				twice(t, "Next", w, w, v)
			case math.IsNaN(w) || place(w) != place(v)+step || w == 0 && math.Signbit(w) != math.Signbit(v):
				t.Fatalf("Next(%v, %v) = %v (%x)", v, up, w, math.Float64bits(w))
			default:
				twice(t, "Next", w, w, math.Nextafter(v, end))
			}
		}
	}
	for _, v := range edges() {
		ask(v)
	}
	r := rand.New(rand.NewSource(43))
	for range 20000 {
		ask(math.Float64frombits(r.Uint64()))
		ask(some(r, -1080, 1023))
	}
}

// P4.3
func TestTwo(t *testing.T) {
	pairs(func(a, b float64) {
		sum, lost := round.Two(a, b)
		twice(t, "Two: the sum", sum, sum, a+b)
		if !finite(sum) {
			twice(t, "Two: lost of what is not finite", lost, lost, 0)
			return
		}
		if !finite(lost) || add(worth(sum), worth(lost)).Cmp(add(worth(a), worth(b))) != 0 {
			t.Fatalf("Two(%v, %v) = %v and %v", a, b, sum, lost)
		}
		if lost == 0 {
			twice(t, "Two: nothing lost", lost, lost, 0)
		}
	})
}
