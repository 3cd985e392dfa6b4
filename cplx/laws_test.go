package cplx_test

import (
	"math"
	"math/big"
	"math/rand"
	"testing"

	"polestar/api"
	"polestar/cplx"
)

// P6.8: Add and Mul are the same the other way round.
func TestOtherWayRound(t *testing.T) {
	pairs(func(a, b complex128) {
		is(t, "Add", cplx.Add(a, b), cplx.Add(b, a))
		is(t, "Mul", cplx.Mul(a, b), cplx.Mul(b, a))
	})
}

// P6.8: turns one behind the other; mirrored ones; distances.
func TestTurnsBehindTurns(t *testing.T) {
	r := rand.New(rand.NewSource(63))
	far := []int{math.MaxInt / 2, math.MinInt / 2, -1, 5}
	for _, z := range append(each(floats()), numbers()[:9000]...) {
		a, b := r.Intn(30)-15, r.Intn(30)-15
		is(t, "Turn", cplx.Turn(cplx.Turn(z, a), b), cplx.Turn(z, a+b))
		a, b = far[r.Intn(4)], far[r.Intn(4)]
		is(t, "Turn", cplx.Turn(cplx.Turn(z, a), b), cplx.Turn(z, a+b))
		is(t, "Turn", cplx.Turn(z, 4), z)
		is(t, "Conj", cplx.Conj(cplx.Conj(z)), z)
		down, up := cplx.Abs(z)
		for _, w := range []complex128{cplx.Conj(z), cplx.Turn(z, 1), cplx.Turn(z, 2), cplx.Turn(z, 3)} {
			if d, u := cplx.Abs(w); !alike(d, down) || !alike(u, up) {
				t.Fatalf("Abs(%s) = %v, %v; Abs(%s) = %v, %v", tell(z), down, up, tell(w), d, u)
			}
		}
	}
}

// P6.8: Sqrt of Conj is Conj of Sqrt; its real part is not below 0.
func TestRootsOfMirrored(t *testing.T) {
	for _, z := range numbers() {
		w := cplx.Sqrt(z)
		if !(real(w) >= 0) || math.Signbit(real(w)) {
			t.Fatalf("Sqrt(%s) = %s", tell(z), tell(w))
		}
		is(t, "Sqrt of Conj", cplx.Sqrt(cplx.Conj(z)), cplx.Conj(w))
	}
}

// P6.8: Parse of Text is the same number.
func TestTextsAndBack(t *testing.T) {
	for _, z := range append(each(floats()), numbers()...) {
		if w, e := cplx.Parse(cplx.Text(z)); e != api.OK || !same(z, w) {
			t.Fatalf("Parse of Text of %s = %s, %v", tell(z), tell(w), e)
		}
	}
}

// P6.9: the root's square is no farther from the number than its distance times 2^-49.
func TestRootsAreNear(t *testing.T) {
	part := new(big.Rat).SetFrac64(1, 1<<49)
	part.Mul(part, part)
	for _, z := range numbers() {
		w := cplx.Sqrt(z)
		u, v := worth(real(w)), worth(imag(w))
		re := new(big.Rat).Sub(square(real(w)), square(imag(w)))
		im := u.Mul(u, v.Add(v, v))
		re.Sub(re, worth(real(z)))
		im.Sub(im, worth(imag(z)))
		off := re.Mul(re, re)
		off.Add(off, im.Mul(im, im))
		if off.Cmp(new(big.Rat).Mul(far(z), part)) > 0 {
			t.Fatalf("Sqrt(%s) = %s is too far", tell(z), tell(w))
		}
	}
}
