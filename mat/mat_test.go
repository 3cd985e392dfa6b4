package mat_test

import (
	"math"
	"slices"
	"testing"

	"polestar/mat"
)

// P8.3: over complex numbers, noughts and what is no number among them, bit by bit.
func TestMatricesOfWaves(t *testing.T) {
	some := someWaves(82)
	for range 20000 {
		m, n := some(), some()
		if got, want := mat.Mul(m, n), waveBehind(m, n); !sameAll(got, want) {
			t.Fatalf("Mul(%v, %v) = %v, not %v", m, n, got, want)
		}
		if got, want := mat.Det(m), plus(times(m.A, m.D), minus(times(m.B, m.C))); !same(got, want) {
			t.Fatalf("Det(%v) = %v, not %v", m, got, want)
		}
		if got, want := mat.Trace(m), plus(m.A, m.D); !same(got, want) {
			t.Fatalf("Trace(%v) = %v, not %v", m, got, want)
		}
		if got, want := mat.Turned(m), of(m.D, minus(m.B), minus(m.C), m.A); !sameAll(got, want) {
			t.Fatalf("Turned(%v) = %v, not %v", m, got, want)
		}
		is(t, "Like", mat.Like(m, n), sameAll(m, n))
		is(t, "Like", mat.Like(m, m), true)
	}
}

// P8.3: one place alone makes two matrices unlike.
func TestLike(t *testing.T) {
	m := of[mat.Wave](1, 0, mat.Wave(complex(none, 2)), 3i)
	for i, n := range []mat.Mat[mat.Wave]{
		of(2, m.B, m.C, m.D), of(m.A, mat.Wave(complex(minus0, 0)), m.C, m.D), of(m.A, m.B, mat.Wave(complex(2, none)), m.D), of(m.A, m.B, m.C, -3i),
	} {
		if mat.Like(m, n) || mat.Like(n, m) {
			t.Errorf("Like of two that differ at %d", i)
		}
	}
	is(t, "Like", mat.Like(m, of(m.A, m.B, mat.Wave(complex(math.Float64frombits(1<<64-1), 2)), m.D)), true)
	k := of[mat.Wrap](math.MinInt64, math.MaxInt64, 0, -1)
	is(t, "Like", mat.Like(k, k), true)
	is(t, "Like", mat.Like(k, of(k.A, k.B, k.C, 1)), false)
	is(t, "Like", mat.Like(of[mat.Small](-128, 127, 0, 1), of[mat.Small](-128, 127, 0, 1)), true)
	is(t, "Like", mat.Like(of[mat.Small](-128, 127, 0, 1), of[mat.Small](127, -128, 0, 1)), false)
}

// P8.3: the greatest and least numbers within matrices wrap round.
func TestMatricesWrap(t *testing.T) {
	const most, least = math.MaxInt64, math.MinInt64
	m := of[mat.Wrap](least, most, 1, least)
	is(t, "Mul", mat.Mul(m, of[mat.Wrap](2, 1, 1, -1)), of[mat.Wrap](most, 1, least+2, least+1))
	is(t, "Det", mat.Det(m), least+1)
	is(t, "Trace", mat.Trace(m), 0)
	is(t, "Turned", mat.Turned(m), of[mat.Wrap](least, -most, -1, least))
	s := of[mat.Small](-128, 127, 100, -128)
	is(t, "Mul", mat.Mul(s, s), of[mat.Small](-100, 0, 0, -100))
	is(t, "Det", mat.Det(s), 100)
	is(t, "Trace", mat.Trace(s), 0)
	is(t, "Turned", mat.Turned(s), of[mat.Small](-128, -127, -100, -128))
}

// P8.4: no step is left out because of what it seems to change: over complex numbers one behind something may be something else.
func TestOneIsNotLeftOut(t *testing.T) {
	one := unit[mat.Wave](0, 1)
	wide := of[mat.Wave](mat.Wave(complex(infinity, 0)), 0, 0, 1)
	want := of[mat.Wave](mat.Wave(complex(infinity, none)), mat.Wave(complex(none, none)), 0, 1)
	low := of[mat.Wave](mat.Wave(complex(minus0, minus0)), mat.Wave(complex(0, minus0)), 1, 1)
	for name, do := range map[string]func(m mat.Mat[mat.Wave]) mat.Mat[mat.Wave]{
		"Power": func(m mat.Mat[mat.Wave]) mat.Mat[mat.Wave] { return mat.Power(one, m, 1) },
		"Chain": func(m mat.Mat[mat.Wave]) mat.Mat[mat.Wave] { return mat.Chain(one, m) },
	} {
		if m := do(wide); !sameAll(m, want) {
			t.Errorf("%s of an infinite one = %v", name, m)
		}
		if m := do(low); !sameAll(m, of[mat.Wave](0, 0, 1, 1)) {
			t.Errorf("%s of noughts below = %v", name, m)
		}
	}
	none := of(wide.A, low.A, want.B, low.B)
	if !sameAll(mat.Power(none, wide, 0), none) || !sameAll(mat.Chain(none), none) {
		t.Error("the power 0, a chain of none: not as it was handed in")
	}
}

// P8.4: one may be any matrix.
func TestFromAnyOne(t *testing.T) {
	some := wraps(83)
	for range 200 {
		one, m, n := some(), some(), some()
		r := one
		for i := range uint64(70) {
			is(t, "Power", mat.Power(one, m, i), r)
			r = mat.Mul(m, r)
		}
		is(t, "Chain", mat.Chain(one, m, n, m), mat.Mul(m, mat.Mul(n, mat.Mul(m, one))))
	}
}

// P8.4: the greatest powers.
func TestGreatPowers(t *testing.T) {
	one, up := unit[mat.Wrap](0, 1), of[mat.Wrap](1, 1, 0, 1)
	for n, want := range map[uint64]mat.Wrap{math.MaxUint64: -1, math.MaxUint64 - 1: -2, 1 << 63: math.MinInt64, 1<<63 - 1: math.MaxInt64, 1 << 32: 1 << 32} {
		is(t, "Power", mat.Power(one, up, n), of(1, want, 0, 1))
	}
	small := unit[mat.Small](0, 1)
	is(t, "Power", mat.Power(small, of[mat.Small](1, 1, 0, 1), math.MaxUint64), of[mat.Small](1, -1, 0, 1))
	is(t, "Power", mat.Power(small, of[mat.Small](1, 1, 1, 0), 3<<62), mat.Power(small, mat.Power(small, of[mat.Small](1, 1, 1, 0), 3<<31), 1<<31))
	turn := of[mat.Wave](0, -1, 1, 0) // a quarter of a turn
	if m := mat.Power(unit[mat.Wave](0, 1), turn, math.MaxUint64); m.A != 0 || m.B != 1 || m.C != -1 || m.D != 0 {
		t.Errorf("Power of a quarter = %v", m)
	}
}

// R4: a list stays as it was, its spare room too; an empty one is as none.
func TestListsStay(t *testing.T) {
	some := wraps(84)
	one := some()
	var all []mat.Mat[mat.Wrap]
	for range 40 {
		all = append(all, some())
	}
	kept := slices.Clone(all)
	for n := range len(all) {
		r := one
		for _, m := range all[:n] {
			r = mat.Mul(m, r)
		}
		is(t, "Chain", mat.Chain(one, all[:n]...), r)
		is(t, "Chain", mat.Chain(one, all[:n:n]...), r)
	}
	if !slices.Equal(all, kept) {
		t.Error("Chain has changed its list")
	}
	is(t, "Chain", mat.Chain(one, nil...), one)
	is(t, "Chain", mat.Chain(one, []mat.Mat[mat.Wrap]{}...), one)
}

// A block is a matrix as a thing of a ring, in which x times y isn't y times x.
type block mat.Mat[mat.Wrap]

func (x block) Add(y block) block {
	return block{A: x.A + y.A, B: x.B + y.B, C: x.C + y.C, D: x.D + y.D}
}
func (x block) Mul(y block) block    { return block(mat.Mul(mat.Mat[mat.Wrap](x), mat.Mat[mat.Wrap](y))) }
func (x block) Neg() block           { return block{A: -x.A, B: -x.B, C: -x.C, D: -x.D} }
func (x block) Like(y block) bool    { return x == y }
func (x block) rows() [2][2]mat.Wrap { return [2][2]mat.Wrap{{x.A, x.B}, {x.C, x.D}} }

// laid: a matrix of blocks as one of four rows.
func laid(m mat.Mat[block]) (all [4][4]mat.Wrap) {
	for i, b := range []block{m.A, m.B, m.C, m.D} {
		for y, row := range b.rows() {
			for x, v := range row {
				all[i/2*2+y][i%2*2+x] = v
			}
		}
	}
	return all
}

// P8.3: over a ring of somebody else's, whose products hang on the order.
func TestMatricesOfMatrices(t *testing.T) {
	some := wraps(85)
	four := func() mat.Mat[block] { return of(block(some()), block(some()), block(some()), block(some())) }
	for range 500 {
		m, n := four(), four()
		x, y := laid(m), laid(n)
		var want [4][4]mat.Wrap
		for i := range 4 {
			for j := range 4 {
				for k := range 4 {
					want[i][j] += x[i][k] * y[k][j]
				}
			}
		}
		is(t, "Mul", laid(mat.Mul(m, n)), want)
		is(t, "Det", mat.Det(m), m.A.Mul(m.D).Add(m.B.Mul(m.C).Neg()))
		is(t, "Chain", laid(mat.Chain(n, m)), want)
	}
}
