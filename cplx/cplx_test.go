package cplx_test

import (
	"fmt"
	"math"
	"math/rand"
	"strings"
	"testing"

	"polestar/api"
	"polestar/cplx"
)

// P6.1
func TestSameAndFinite(t *testing.T) {
	l := each(floats())
	for _, z := range l {
		if got := cplx.Finite(z); got != finite(real(z), imag(z)) {
			t.Errorf("Finite(%s) = %v", tell(z), got)
		}
	}
	pairs(func(a, b complex128) {
		if got := cplx.Same(a, b); got != same(a, b) {
			t.Fatalf("Same of %s and %s = %v", tell(a), tell(b), got)
		}
		if !cplx.Same(a, a) || !cplx.Same(b, b) {
			t.Fatalf("%s or %s is not the same as itself", tell(a), tell(b))
		}
	})
	for _, v := range []uint64{0x7ff << 52, 0xfff << 52} { // no numbers of other bits, beside the infinities
		for _, low := range []uint64{1, 1 << 51, 1<<52 - 1} {
			odd := math.Float64frombits(v | low)
			if !cplx.Same(complex(odd, 2), complex(none, 2)) || !cplx.Same(complex(2, none), complex(2, odd)) || cplx.Finite(complex(1, odd)) {
				t.Errorf("%x is no number", v|low)
			}
		}
	}
}

// P6.2: every product, sum and quotient is rounded by itself.
func TestReckoning(t *testing.T) {
	pairs(func(a, b complex128) {
		ar, ai, br, bi := real(a), imag(a), real(b), imag(b)
		ask := func(name string, do func(a, b complex128) complex128, re, im float64) {
			t.Helper()
			if z := do(a, b); !same(z, complex(re, im)) {
				t.Fatalf("%s of %s and %s = %s, not %s", name, tell(a), tell(b), tell(z), tell(complex(re, im)))
			}
		}
		ask("Add", cplx.Add, add(ar, br), add(ai, bi))
		ask("Sub", cplx.Sub, sub(ar, br), sub(ai, bi))
		ask("Mul", cplx.Mul, sub(mul(ar, br), mul(ai, bi)), add(mul(ar, bi), mul(ai, br)))
		d := add(mul(br, br), mul(bi, bi))
		ask("Quo", cplx.Quo, quo(add(mul(ar, br), mul(ai, bi)), d), quo(sub(mul(ai, br), mul(ar, bi)), d))
	})
}

// P6.2: what is infinite or divided by nought goes on as Go's floats have it.
func TestReckoningBeyond(t *testing.T) {
	is(t, "Add", cplx.Add(complex(infinity, minus0), complex(-infinity, minus0)), complex(none, minus0))
	is(t, "Sub", cplx.Sub(0, 0), 0)
	is(t, "Sub", cplx.Sub(complex(minus0, minus0), 0), complex(minus0, minus0))
	is(t, "Mul", cplx.Mul(complex(most, 0), 2), complex(infinity, 0))
	is(t, "Mul", cplx.Mul(complex(most, most), complex(2, 2)), complex(none, infinity))
	is(t, "Mul", cplx.Mul(complex(0x1p-600, 0), complex(-0x1p-600, 0)), complex(minus0, 0))
	is(t, "Quo", cplx.Quo(complex(1, 1), complex(0x1p-600, 0)), complex(infinity, infinity))
	is(t, "Quo", cplx.Quo(1, complex(0x1p600, 0)), 0)
	is(t, "Quo", cplx.Quo(1, complex(infinity, 0)), complex(none, none))
}

// turned: the four turns of a number, as the chapter has them.
func turned(z complex128) [4]complex128 {
	re, im := real(z), imag(z)
	return [4]complex128{z, complex(-im, re), complex(-re, -im), complex(im, -re)}
}

// P6.3
func TestTurns(t *testing.T) {
	for _, z := range each(floats()) {
		is(t, "Conj", cplx.Conj(z), complex(real(z), -imag(z)))
		four := turned(z)
		for k := -9; k < 12; k++ {
			is(t, fmt.Sprintf("Turn of %s by %d", tell(z), k), cplx.Turn(z, k), four[(k+12)%4])
		}
		for k, want := range map[int]complex128{
			math.MaxInt: four[3], math.MaxInt - 1: four[2], math.MaxInt - 3: four[0],
			math.MinInt: four[0], math.MinInt + 1: four[1], math.MinInt + 3: four[3],
		} {
			is(t, fmt.Sprintf("Turn of %s by %d", tell(z), k), cplx.Turn(z, k), want)
		}
	}
	is(t, "Conj of a nought", cplx.Conj(complex(0, minus0)), 0)
	is(t, "Turn of a nought", cplx.Turn(0, 2), complex(minus0, minus0))
}

// P6.4: down is the greatest float that is not above, up the least one that is not below.
func TestAbs(t *testing.T) {
	for _, z := range numbers() {
		down, up := cplx.Abs(z)
		want := far(z)
		if math.Signbit(down) || math.Signbit(up) || !finite(down) {
			t.Fatalf("Abs(%s) = %v, %v", tell(z), down, up)
		}
		c := square(down).Cmp(want)
		if c == 0 && up != down || c != 0 && up != math.Nextafter(down, infinity) {
			t.Fatalf("Abs(%s) = %x, %x", tell(z), down, up)
		}
		if c > 0 || c < 0 && finite(up) && square(up).Cmp(want) <= 0 {
			t.Fatalf("Abs(%s) = %x, %x: it is not between", tell(z), down, up)
		}
	}
}

// threes: whole numbers, the square of the last one being the sum of the others' squares; none has more bits than a float.
func threes() [][3]float64 {
	l := [][3]float64{{3, 4, 5}, {5, 12, 13}, {119, 120, 169}, {1 << 27, 1<<52 - 1, 1<<52 + 1}, {0, 7, 7}, {0, most / 0x1p970, most / 0x1p970}}
	r := rand.New(rand.NewSource(64))
	for range 500 {
		m, n := float64(1+r.Intn(1<<26)), float64(1+r.Intn(1<<26))
		l = append(l, [3]float64{m*m - n*n, 2 * m * n, m*m + n*n})
	}
	return l
}

// P6.4: exact distances, near and far.
func TestAbsExactly(t *testing.T) {
	for i, c := range threes() {
		for e := -1074 + i%100; e <= 970; e += 100 - min(i, 93) {
			x, y, want := math.Ldexp(c[0], e), math.Ldexp(c[1], e), math.Ldexp(c[2], e)
			for _, z := range []complex128{complex(x, y), complex(-x, y), complex(y, -x), complex(-y, -x)} {
				if down, up := cplx.Abs(z); down != want || up != want {
					t.Fatalf("Abs(%s) = %x, %x", tell(z), down, up)
				}
			}
		}
	}
}

// P6.4: parts that are not finite; the greatest floats.
func TestAbsBeyond(t *testing.T) {
	for _, c := range []struct {
		z        complex128
		down, up float64
	}{
		{complex(none, 1), none, none}, {complex(0, none), none, none}, {complex(none, none), none, none},
		{complex(-infinity, 0), infinity, infinity}, {complex(1, infinity), infinity, infinity}, {complex(infinity, -infinity), infinity, infinity}, {complex(-infinity, none), infinity, infinity},
		{complex(most, tiny), most, infinity}, {complex(-most, 0), most, most}, {complex(most, most/2), most, infinity},
		{complex(tiny, -tiny), tiny, 2 * tiny}, {complex(tiny, minus0), tiny, tiny}, {complex(minus0, minus0), 0, 0},
	} {
		if down, up := cplx.Abs(c.z); !alike(down, c.down) || !alike(up, c.up) {
			t.Errorf("Abs(%v) = %v, %v", c.z, down, up)
		}
	}
}

// root: as the chapter has it, every operation rounded by itself.
func root(z complex128) complex128 {
	re, im := real(z), imag(z)
	switch {
	case !finite(re, im):
		return complex(none, none)
	case re == 0 && im == 0:
		return complex(0, im)
	}
	e := math.Ilogb(max(math.Abs(re), math.Abs(im))) + 1
	k := int(math.Floor(float64(e) / 2))
	x, y := math.Ldexp(re, -2*k), math.Ldexp(im, -2*k)
	h := math.Sqrt(add(mul(x, x), mul(y, y)))
	t := math.Sqrt(quo(add(math.Abs(x), h), 2))
	u, v := t, quo(y, mul(2, t))
	if x < 0 {
		u, v = quo(math.Abs(y), mul(2, t)), math.Copysign(t, y)
	}
	return complex(math.Ldexp(u, k), math.Ldexp(v, k))
}

// P6.5
func TestSqrt(t *testing.T) {
	all := numbers()
	for i := 0; i < len(all); i += 1 + i%5 {
		z := all[i]
		is(t, fmt.Sprintf("Sqrt(%s)", tell(z)), cplx.Sqrt(z), root(z))
	}
	for _, z := range each(floats()) {
		is(t, fmt.Sprintf("Sqrt(%s)", tell(z)), cplx.Sqrt(z), root(z))
	}
	is(t, "Sqrt of minus nought", cplx.Sqrt(complex(minus0, minus0)), complex(0, minus0))
	is(t, "Sqrt of an infinite one", cplx.Sqrt(complex(infinity, 0)), complex(none, none))
	is(t, "Sqrt beside minus nought", cplx.Sqrt(complex(minus0, -8)), complex(2, -2))
}

// multiplied: as the chapter has it, the digits taken from a text.
func multiplied(z complex128, n uint) complex128 {
	if n == 0 {
		return 1
	}
	p := z
	for _, digit := range fmt.Sprintf("%b", n)[1:] {
		p = cplx.Mul(p, p)
		if digit == '1' {
			p = cplx.Mul(p, z)
		}
	}
	return p
}

// P6.6
func TestPower(t *testing.T) {
	r := rand.New(rand.NewSource(62))
	l := append(each(floats()), 0.6+0.8i, 1+0x1p-30i)
	for range 300 {
		l = append(l, near(r, r.Intn(40)-20))
	}
	for _, z := range l {
		for n := range uint(20) {
			is(t, fmt.Sprintf("%s to the power %d", tell(z), n), cplx.Power(z, n), multiplied(z, n))
		}
		for _, n := range []uint{63, 64, 1000, 1 << 32, 1 << 63, math.MaxUint - 1, math.MaxUint, uint(r.Uint64())} {
			is(t, fmt.Sprintf("%s to the power %d", tell(z), n), cplx.Power(z, n), multiplied(z, n))
		}
	}
	is(t, "the power 0", cplx.Power(complex(none, infinity), 0), 1)
	is(t, "the power 1", cplx.Power(complex(minus0, minus0), 1), complex(minus0, minus0))
	is(t, "the power 10", cplx.Power(1+1i, 10), 32i)
}

// P6.7
func TestText(t *testing.T) {
	told := func(v float64) string {
		if v != v {
			return "7ff8000000000001"
		}
		return fmt.Sprintf("%016x", math.Float64bits(v))
	}
	for _, z := range append(each(floats()), numbers()...) {
		if s := cplx.Text(z); s != told(real(z))+told(imag(z)) {
			t.Fatalf("Text(%s) = %q", tell(z), s)
		}
	}
}

// P6.7: what Text tells of no number.
func TestWrongTexts(t *testing.T) {
	good := "3ff0000000000000c0000000000000ab"
	if z, e := cplx.Parse(good); e != api.OK || real(z) != 1 {
		t.Fatal(z, e)
	}
	l := []string{
		"", "0", "1", good[1:], good + "0", " " + good, good + " ", good + good, good[:16], "0x" + good[2:], "+" + good[1:], "-" + good[1:],
		strings.ToUpper(good), good[:30] + "aB", good[:31] + "g", good[:31] + "_", "3_f" + good[3:], good[:16] + "+" + good[17:], good[:31] + "\x00", good[:30] + "é", "٣" + good[2:],
		"7ff0000000000001" + good[16:], "7ff8000000000000" + good[16:], "7ff8000000000002" + good[16:], "fff8000000000001" + good[16:], "ffffffffffffffff" + good[16:],
		good[:16] + "7fffffffffffffff", good[:16] + "fff0000000000001", "7ff80000000000017ff8000000000000", strings.Repeat("0", 33), strings.Repeat("0", 65536), strings.Repeat("f", 32),
	}
	for _, s := range l {
		if z, e := cplx.Parse(s); e != api.ErrForm || !same(z, 0) {
			t.Errorf("Parse(%.80q) = %v, %v", s, z, e)
		}
	}
	for i := range good { // every byte by itself
		for b := range 256 {
			s := good[:i] + string([]byte{byte(b)}) + good[i+1:]
			hex := b >= '0' && b <= '9' || b >= 'a' && b <= 'f'
			z, e := cplx.Parse(s)
			if nan := real(z) != real(z) || imag(z) != imag(z); !nan && hex != (e == api.OK) || e != api.OK && !same(z, 0) {
				t.Fatalf("Parse(%q) = %v, %v", s, z, e)
			}
		}
	}
}
