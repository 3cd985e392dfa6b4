package orbit_test

import (
	"math"
	"testing"

	"polestar/api"
	"polestar/orbit"
)

// refusedAll: do all calls refuse these with ErrArg? (Power is asked for its matrix alone, and Leaves alone for its limit.)
func refusedAll(t *testing.T, m api.Matrix, r api.Ray, limit api.Frac) {
	t.Helper()
	refusedRay(t, m, r)
	for _, n := range []int{0, 1, api.MaxTrips, api.MaxTrips + 1, -1, math.MinInt, math.MaxInt} {
		got, e := trips(m, n)
		refused(t, "Power", got, e, api.ErrArg)
	}
	refusedLimit(t, m, r, limit)
}

// refusedRay: do all calls that take a ray? However many trips are asked for.
func refusedRay(t *testing.T, m api.Matrix, r api.Ray) {
	t.Helper()
	for _, n := range []int{0, 1, api.MaxTrips, api.MaxTrips + 1, -1, math.MinInt, math.MaxInt} {
		got, e := after(m, r, n)
		refused(t, "After", got, e, api.ErrArg)
	}
	got, e := form(m, r)
	refused(t, "Form", got, e, api.ErrArg)
	got, e = bound(m, r)
	refused(t, "Bound", got, e, api.ErrArg)
	if stays, e := orbit.Stays(m, r); stays || e != api.ErrArg {
		t.Fatalf("Stays of %s = %v, %v", toldAll(m, r), stays, e)
	}
	for _, limit := range []string{"0", "1", "-1", "1000"} {
		refusedLimit(t, m, r, num(limit))
	}
}

func refusedLimit(t *testing.T, m api.Matrix, r api.Ray, limit api.Frac) {
	t.Helper()
	if n, e := orbit.Leaves(m, r, limit); n != 0 || e != api.ErrArg {
		t.Fatalf("Leaves of %s; %s = %d, %v", toldAll(m, r), told(limit), n, e)
	}
}

// kinds: a matrix of each Kind, and rays that stay there or do not.
func kinds() []string {
	return []string{"0 1 -1 0", "1/3 1 -8/9 1/3", "1 0 0 1", "-1 0 0 -1", "1 2 0 1", "-1 0 3 -1", "2 3 1 2", "2 0 0 1/2", "-2 0 0 -1/2"}
}

func rayTexts() []string { return []string{"0 0", "1 0", "0 1", "3 -4", "1/2 1/3"} }

// A fraction that may not be in each place of a matrix, and determinants that are not 1, a hair beside it too.
func TestWrongMatrices(t *testing.T) {
	var l []api.Matrix
	for _, x := range wrongFracs() {
		for place := range 4 {
			for _, text := range kinds() {
				m := matrix(text)
				*places(&m)[place] = x
				l = append(l, m)
			}
		}
		l = append(l, api.Matrix{A: x, B: x, C: x, D: x})
	}
	for _, text := range []string{"2 0 0 2", "1 1 1 1", "0 0 0 0", "1 0 0 -1", "0 1 1 0", "1 0 0 2", "2 3 1 1", "0 1 -1/2 0", "1/2 0 0 1/2"} {
		l = append(l, matrix(text))
	}
	hair, p := inverse(most()), power(32*api.MaxLimbs-1, 0)
	for _, m := range []rats{
		{rat(1), hair, hair, rat(1)}, {rat(1), rat(0), rat(0), less(rat(1), hair)}, {most(), rat(0), rat(0), most()}, {p, plus(p, rat(-1)), p, p}, {p, p, p, p},
	} {
		l = append(l, made(m))
	}
	for i, m := range append(l, api.Matrix{}) {
		refusedAll(t, m, theRay(rayTexts()[i%5]), num("1"))
	}
	refusedAll(t, api.Matrix{}, api.Ray{}, api.Frac{})
}

// A fraction that may not be as the height, as the steepness, as both, whatever the Kind is; ErrArg, not ErrLight, nor ErrDeep.
func TestWrongRays(t *testing.T) {
	for _, x := range append(wrongFracs(), api.Frac{}) {
		for _, text := range kinds() {
			m := matrix(text)
			refusedRay(t, m, api.Ray{Y: x, U: num("0")})
			refusedRay(t, m, api.Ray{Y: num("0"), U: x})
			refusedRay(t, m, api.Ray{Y: x, U: num("5")})
			refusedRay(t, m, api.Ray{Y: num("5"), U: x})
			refusedRay(t, m, api.Ray{Y: x, U: x})
		}
	}
}

// Limits that may not be: ErrArg, whether the ray is farther than anything already or never comes far.
func TestWrongLimits(t *testing.T) {
	for _, x := range wrongFracs() {
		for _, text := range kinds() {
			for _, r := range rayTexts() {
				refusedLimit(t, matrix(text), theRay(r), x)
			}
			refusedLimit(t, matrix(text), madeRay(rats{most(), minus(most())}), x)
		}
	}
}

// P13.1: a number of trips below nought is ErrArg, one above MaxTrips ErrLimit, of whatever matrix and ray; MaxTrips are allowed.
func TestWrongTrips(t *testing.T) {
	great := rats{most(), rat(0), rat(0), inverse(most())}
	rays := []rats{list("0 0"), list("1 0"), list("0 1"), {most(), most()}}
	for _, m := range append([]rats{great}, matrices(kinds())...) {
		for _, r := range rays {
			for _, n := range []int{-1, -2, -api.MaxTrips, math.MinInt32, math.MinInt} {
				got, e := trips(made(m), n)
				refused(t, "Power", got, e, api.ErrArg)
				got, e = after(made(m), madeRay(r), n)
				refused(t, "After", got, e, api.ErrArg)
			}
			for _, n := range []int{api.MaxTrips + 1, api.MaxTrips + 2, 1 << 20, math.MaxInt32, math.MaxInt} {
				got, e := trips(made(m), n)
				refused(t, "Power", got, e, api.ErrLimit)
				got, e = after(made(m), madeRay(r), n)
				refused(t, "After", got, e, api.ErrLimit)
			}
		}
	}
}

func matrices(texts []string) (l []rats) {
	for _, text := range texts {
		l = append(l, list(text))
	}
	return l
}

// The order of errors: ErrLight comes ahead of ErrLimit; what is refused for its size alone is ErrLimit.
func TestOrderOfErrors(t *testing.T) {
	great := madeRay(rats{most(), most()})
	for _, text := range []string{"1 2 0 1", "-1 0 3 -1", "2 3 1 2", "2 0 0 1/2"} {
		got, e := bound(matrix(text), great)
		refused(t, "Bound of "+text, got, e, api.ErrLight)
	}
	for _, text := range []string{"0 1 -1 0", "1/3 1 -8/9 1/3", "1 0 0 1", "-1 0 0 -1"} {
		got, e := bound(matrix(text), great)
		refused(t, "Bound of "+text, got, e, api.ErrLimit)
	}
	got, e := bound(matrix("1 2 0 1"), madeRay(rats{most(), rat(0)}))
	refused(t, "Bound on the line that the edge keeps", got, e, api.ErrLimit)
	got, e = bound(matrix("1/2 0 0 2"), madeRay(rats{most(), rat(0)}))
	refused(t, "Bound on the line that shrinks", got, e, api.ErrLimit)
}

// R1: lists far above the limit, and of noughts alone.
func TestLongLists(t *testing.T) {
	one := num("1")
	for _, l := range [][]uint32{make([]uint32, 1<<20), append(make([]uint32, 1<<20), 1)} {
		for _, x := range []api.Frac{{Num: api.Int{Mag: l}, Den: one.Num}, {Num: one.Num, Den: api.Int{Mag: l}}, {Num: api.Int{Neg: true, Mag: l}, Den: api.Int{Mag: l}}} {
			refusedAll(t, api.Matrix{A: one, B: x, C: num("0"), D: one}, theRay("1 0"), one)
			refusedRay(t, matrix("1 0 0 1"), api.Ray{Y: x, U: one})
			refusedRay(t, matrix("1 0 0 1"), api.Ray{Y: one, U: x})
			refusedLimit(t, matrix("1 0 0 1"), theRay("1 0"), x)
		}
	}
}
