package mat_test

import (
	"math"
	"math/big"
	"math/rand"
	"testing"

	"polestar/cplx"
	"polestar/mat"
)

// Each of the three is a ring of itself.
var (
	_ mat.Ring[mat.Wrap]  = mat.Wrap(0)
	_ mat.Ring[mat.Small] = mat.Small(0)
	_ mat.Ring[mat.Wave]  = mat.Wave(0)
)

// wrapped: a whole number modulo 2^64.
func wrapped(z *big.Int) mat.Wrap {
	low := new(big.Int).And(z, new(big.Int).SetUint64(math.MaxUint64)) // as if of endless digits below nought
	return mat.Wrap(low.Uint64())
}

// P8.1: numbers of 64 bits, against the library's numbers.
func TestWraps(t *testing.T) {
	ask := func(a, b mat.Wrap) {
		x, y := big.NewInt(int64(a)), big.NewInt(int64(b))
		is(t, "Add", a.Add(b), wrapped(new(big.Int).Add(x, y)))
		is(t, "Mul", a.Mul(b), wrapped(new(big.Int).Mul(x, y)))
		is(t, "Neg", a.Neg(), wrapped(new(big.Int).Neg(x)))
		is(t, "Like", a.Like(b), x.Cmp(y) == 0)
	}
	for _, a := range edges() {
		for _, b := range edges() {
			ask(a, b)
		}
	}
	r := rand.New(rand.NewSource(80))
	for range 20000 {
		a := mat.Wrap(r.Uint64())
		ask(a, mat.Wrap(r.Uint64()))
		ask(a, a)
		ask(a, a^1<<uint(r.Intn(64)))
	}
}

// P8.1: the greatest and least numbers.
func TestWrapsAtTheBorder(t *testing.T) {
	const most, least = mat.Wrap(math.MaxInt64), mat.Wrap(math.MinInt64)
	is(t, "Add", most.Add(most), -2)
	is(t, "Add", least.Add(least), 0)
	is(t, "Add", least.Add(-1), most)
	is(t, "Mul", most.Mul(most), 1)
	is(t, "Mul", least.Mul(-1), least)
	is(t, "Mul", least.Mul(3), least)
	is(t, "Neg", most.Neg(), least+1)
	is(t, "Neg", least.Neg(), least)
	is(t, "Like", least.Like(least), true)
	is(t, "Like", least.Like(0), false)
	is(t, "Like", most.Like(-1), false)
}

// P8.1: all numbers of 8 bits.
func TestSmalls(t *testing.T) {
	around := func(v int) mat.Small { return mat.Small(((v+128)%256+256)%256 - 128) }
	for i := -128; i < 128; i++ {
		a := mat.Small(i)
		is(t, "Neg", a.Neg(), around(-i))
		for j := -128; j < 128; j++ {
			b := mat.Small(j)
			is(t, "Add", a.Add(b), around(i+j))
			is(t, "Mul", a.Mul(b), around(i*j))
			is(t, "Like", a.Like(b), i == j)
		}
	}
}

// pairs: of complex numbers between all edges.
func pairs(ask func(a, b mat.Wave)) {
	l := waves()
	for i, a := range l {
		ask(a, a)
		for j := i % 7; j < len(l); j += 7 {
			ask(a, l[j])
		}
	}
	r := rand.New(rand.NewSource(81))
	some := func() mat.Wave { return mat.Wave(complex(r.NormFloat64(), r.NormFloat64())) }
	for range 20000 {
		ask(some(), some())
	}
}

// P8.2: by cplx, and by the parts one by one, bit by bit.
func TestWaves(t *testing.T) {
	pairs(func(a, b mat.Wave) {
		for _, c := range []struct {
			name           string
			got, want, own mat.Wave
		}{
			{"Add", a.Add(b), plus(a, b), mat.Wave(cplx.Add(complex128(a), complex128(b)))},
			{"Mul", a.Mul(b), times(a, b), mat.Wave(cplx.Mul(complex128(a), complex128(b)))},
			{"Neg", a.Neg(), minus(a), mat.Wave(cplx.Turn(complex128(a), 2))},
		} {
			if !same(c.got, c.want) || !same(c.got, c.own) {
				t.Fatalf("%s of %v and %v = %v, not %v", c.name, a, b, c.got, c.want)
			}
		}
		if got := a.Like(b); got != same(a, b) || got != cplx.Same(complex128(a), complex128(b)) {
			t.Fatalf("Like of %v and %v = %v", a, b, got)
		}
	})
}

// P8.2: noughts of both signs, parts that are no numbers, and products that a fused operation would tell otherwise.
func TestWavesAtTheBorder(t *testing.T) {
	w := func(re, im float64) mat.Wave { return mat.Wave(complex(re, im)) }
	for _, c := range []struct {
		name      string
		got, want mat.Wave
	}{
		{"Neg", w(0, 0).Neg(), w(minus0, minus0)},
		{"Neg", w(minus0, 0).Neg(), w(0, minus0)},
		{"Neg", w(minus0, minus0).Neg(), w(0, 0)},
		{"Neg", w(none, 2).Neg(), w(none, -2)},
		{"Neg", w(minus0, none).Neg(), w(0, none)},
		{"Neg", w(infinity, -infinity).Neg(), w(-infinity, infinity)},
		{"Neg", w(math.MaxFloat64, -math.SmallestNonzeroFloat64).Neg(), w(-math.MaxFloat64, math.SmallestNonzeroFloat64)},
		{"Add", w(minus0, minus0).Add(w(minus0, 0)), w(minus0, 0)},
		{"Add", w(infinity, 1).Add(w(-infinity, none)), w(none, none)},
		{"Add", w(math.MaxFloat64, 0).Add(w(math.MaxFloat64, 0)), w(infinity, 0)},
		{"Mul", w(infinity, 0).Mul(1), w(infinity, none)},
		{"Mul", w(minus0, 0).Mul(1), w(minus0, 0)},
		{"Mul", w(1+0x1p-52, 1).Mul(w(1-0x1p-53, 1)), w(0, 2)},
		{"Mul", w(0x1p-600, 0).Mul(w(-0x1p-600, 0)), w(minus0, 0)},
	} {
		if !same(c.got, c.want) {
			t.Errorf("%s = %v, not %v", c.name, c.got, c.want)
		}
	}
	if w(0, 0).Like(w(0, minus0)) || !w(minus0, 0).Like(w(minus0, 0)) || w(none, 0).Like(w(none, minus0)) || w(1, none).Like(w(none, 1)) {
		t.Error("Like of noughts and no numbers")
	}
	if odd := math.Float64frombits(0xfff0<<48 | 1); !w(odd, 1).Like(w(none, 1)) || !w(1, none).Like(w(1, odd)) || w(odd, 1).Like(w(infinity, 1)) {
		t.Error("Like of no numbers of unlike bits")
	}
}
