package image_test

import (
	"testing"

	"polestar/api"
)

// wrongMatrices: those that may not be: a fraction in each place, and determinants that are not 1, a hair beside it too.
func wrongMatrices() []api.Matrix {
	l := []api.Matrix{{}}
	for _, x := range wrongFracs() {
		for place := range 4 {
			for _, text := range []string{"1 0 0 1", "2 3 1 2", "0 1 -1 5", "1 0 -1 1"} {
				m := matrix(text)
				*places(&m)[place] = x
				l = append(l, m)
			}
		}
		l = append(l, api.Matrix{A: x, B: x, C: x, D: x})
	}
	for _, text := range []string{
		"1 1 1 1", "0 0 0 0", "1 0 0 -1", "-1 0 0 1", "0 1 1 0", "2 0 0 2", "1 0 0 2", "2 3 1 1", "1 1 -1 1", "0 0 0 1", "1 0 0 0", "1/2 0 0 1", "2/3 0 0 3/4",
	} {
		l = append(l, matrix(text))
	}
	hair, p := inverse(most()), two(32*api.MaxLimbs-1, 0)
	for _, m := range []rats{
		{rat(1), hair, hair, rat(1)}, {rat(1), hair, minus(hair), rat(1)}, {rat(1), rat(0), rat(0), plus(rat(1), hair)}, {most(), rat(0), rat(0), most()},
		{p, plus(p, rat(-1)), p, p}, {p, p, p, p}, // products beyond the limit
	} {
		l = append(l, made(m))
	}
	return l
}

// wrongOpenings: what may not be, and what is below nought.
func wrongOpenings() []api.Frac {
	return append(wrongFracs(), num("-1"), num("-1/3"), of(minus(most())), of(minus(inverse(most()))))
}

// All calls: a matrix that may not be is refused, whatever comes with it.
func TestWrongMatrices(t *testing.T) {
	others := append(wrongOpenings()[:12], num("0"), num("1"), num("-1"), of(most()))
	for _, m := range wrongMatrices() {
		for what, do := range calls() {
			for _, x := range others {
				got, e := do(m, x)
				refused(t, what, got, e, api.ErrArg)
			}
		}
	}
}

// P11.3: things that may not be; ahead of ErrZero, which C and D that are nought together can't make, and of ErrLimit.
func TestWrongThings(t *testing.T) {
	for _, x := range wrongFracs() {
		for _, m := range append(edges(), matrix("1 1 -1 0")) {
			got, e := imaged(m, x)
			refused(t, "Image of "+toldMatrix(m), got, e, api.ErrArg)
		}
	}
}

// P11.5: openings that may not be, and those below nought; ahead of ErrZero and of ErrLimit.
func TestWrongOpenings(t *testing.T) {
	for _, x := range wrongOpenings() {
		for _, m := range append(edges(), matrix("1 0 -1 1"), made(rats{rat(1), inverse(most()), rat(0), rat(1)})) {
			got, e := stop(m, x)
			refused(t, "Stop of "+toldMatrix(m), got, e, api.ErrArg)
		}
	}
}

// R2: ErrZero ahead of ErrLimit: what is to be divided is beyond the limit.
func TestNoughtAheadOfTheLimit(t *testing.T) {
	for _, a := range []rats{{minus(most()), inverse(minus(most()))}, {inverse(most()), most()}, {rat(1), rat(1)}} {
		m := made(rats{a[0], most(), rat(0), a[1]})
		got, e := planes(m, api.Frac{})
		refused(t, "Planes of "+toldMatrix(m), got, e, api.ErrZero)
		m = made(rats{a[0], rat(0), most(), a[1]})
		got, e = stop(m, of(most()))
		refused(t, "Stop of "+toldMatrix(m), got, e, api.ErrZero)
	}
	for _, ahead := range (rats{most(), minus(most()), inverse(most())}) {
		m := made(rats{rat(0), minus(ahead), inverse(ahead), rat(-1)})
		got, e := imaged(m, of(ahead))
		refused(t, "Image of "+toldMatrix(m), got, e, api.ErrZero)
	}
}

// R1: lists far above the limit, and of noughts alone.
func TestLongLists(t *testing.T) {
	one := num("1")
	for _, l := range [][]uint32{make([]uint32, 1<<20), append(make([]uint32, 1<<20), 1)} {
		for _, x := range []api.Frac{{Num: api.Int{Mag: l}, Den: one.Num}, {Num: one.Num, Den: api.Int{Mag: l}}, {Num: api.Int{Neg: true, Mag: l}, Den: api.Int{Mag: l}}} {
			for what, do := range calls() {
				got, e := do(api.Matrix{A: one, B: x, C: num("0"), D: one}, x)
				refused(t, what, got, e, api.ErrArg)
			}
			got, e := imaged(matrix("1 1 -1 0"), x)
			refused(t, "Image", got, e, api.ErrArg)
			got, e = stop(matrix("1 1 -1 0"), x)
			refused(t, "Stop", got, e, api.ErrArg)
		}
	}
}
