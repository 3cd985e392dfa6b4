package orbit_test

import (
	"encoding/binary"
	"math/big"
	"math/rand"
	"slices"
	"strings"
	"testing"

	"polestar/api"
	"polestar/orbit"
)

// ofInt: a whole number of the library's as the program has it.
func ofInt(n *big.Int) api.Int {
	x := api.Int{Neg: n.Sign() < 0}
	bytes := n.FillBytes(make([]byte, (n.BitLen()+31)/32*4))
	for ; len(bytes) > 0; bytes = bytes[:len(bytes)-4] {
		x.Mag = append(x.Mag, binary.BigEndian.Uint32(bytes[len(bytes)-4:]))
	}
	return x
}

// worthInt: the other way.
func worthInt(x api.Int) *big.Int {
	var bytes []byte
	for _, limb := range slices.Backward(x.Mag) {
		bytes = binary.BigEndian.AppendUint32(bytes, limb)
	}
	n := new(big.Int).SetBytes(bytes)
	if x.Neg {
		n.Neg(n)
	}
	return n
}

// of: a fraction of the library's, which is in lowest terms, as the program has it.
func of(r *big.Rat) api.Frac { return api.Frac{Num: ofInt(r.Num()), Den: ofInt(r.Denom())} }

// worth: the other way.
func worth(x api.Frac) *big.Rat {
	return new(big.Rat).SetFrac(worthInt(x.Num), worthInt(x.Den))
}

// parse: a fraction as it is written down.
func parse(s string) *big.Rat {
	x, ok := new(big.Rat).SetString(s)
	if !ok {
		panic(s)
	}
	return x
}

// rats is what fractions are by the library's, in order: those of a matrix are A, B, C, D, those of a ray Y, U.
type rats []*big.Rat

// list: fractions as they are written down.
func list(text string) (l rats) {
	for _, s := range strings.Fields(text) {
		l = append(l, parse(s))
	}
	return l
}

func num(text string) api.Frac      { return of(parse(text)) }
func matrix(text string) api.Matrix { return made(list(text)) }
func made(l rats) api.Matrix        { return api.Matrix{A: of(l[0]), B: of(l[1]), C: of(l[2]), D: of(l[3])} }
func worths(m api.Matrix) rats      { return rats{worth(m.A), worth(m.B), worth(m.C), worth(m.D)} }
func apart(m api.Matrix) []api.Frac { return []api.Frac{m.A, m.B, m.C, m.D} }

func theRay(text string) api.Ray       { return madeRay(list(text)) }
func madeRay(l rats) api.Ray           { return api.Ray{Y: of(l[0]), U: of(l[1])} }
func worthsRay(r api.Ray) rats         { return rats{worth(r.Y), worth(r.U)} }
func apartRay(r api.Ray) []api.Frac    { return []api.Frac{r.Y, r.U} }
func places(m *api.Matrix) []*api.Frac { return []*api.Frac{&m.A, &m.B, &m.C, &m.D} }

// told: fractions for whoever reads of a test that failed, cut off if they are long.
func told(l ...api.Frac) string {
	var s []string
	for _, x := range l {
		text := "none"
		if worthInt(x.Den).Sign() > 0 {
			text = worth(x).RatString()
		}
		s = append(s, text[:min(len(text), 60)])
	}
	return strings.Join(s, " ")
}

// toldAll: a matrix and a ray.
func toldAll(m api.Matrix, r api.Ray) string { return told(apart(m)...) + "; " + told(apartRay(r)...) }

// The calls that answer fractions, as lists of them.

func trips(m api.Matrix, n int) ([]api.Frac, api.Errno) {
	all, e := orbit.Power(m, n)
	return apart(all), e
}

func after(m api.Matrix, r api.Ray, n int) ([]api.Frac, api.Errno) {
	out, e := orbit.After(m, r, n)
	return apartRay(out), e
}

func form(m api.Matrix, r api.Ray) ([]api.Frac, api.Errno) {
	x, e := orbit.Form(m, r)
	return []api.Frac{x}, e
}

func bound(m api.Matrix, r api.Ray) ([]api.Frac, api.Errno) {
	x, e := orbit.Bound(m, r)
	return []api.Frac{x}, e
}

// isStays: is it told whether a ray stays?
func isStays(t *testing.T, m api.Matrix, r api.Ray, want bool) {
	t.Helper()
	if got, e := orbit.Stays(m, r); got != want || e != api.OK {
		t.Fatalf("Stays of %s = %v, %v", toldAll(m, r), got, e)
	}
}

// leavesAt: does it leave behind so many trips?
func leavesAt(t *testing.T, m api.Matrix, r api.Ray, limit api.Frac, want int) {
	t.Helper()
	if n, e := orbit.Leaves(m, r, limit); n != want || e != api.OK {
		t.Fatalf("Leaves of %s; %s = %d, %v, not %d", toldAll(m, r), told(limit), n, e, want)
	}
}

// leavesNever: does it not leave?
func leavesNever(t *testing.T, m api.Matrix, r api.Ray, limit api.Frac) {
	t.Helper()
	if n, e := orbit.Leaves(m, r, limit); n != 0 || e != api.ErrDeep {
		t.Fatalf("Leaves of %s; %s = %d, %v, not ErrDeep", toldAll(m, r), told(limit), n, e)
	}
}

// same: are they the same, limb by limb? (No limbs are no limbs, nil or not.)
func same(x, y []api.Frac) bool {
	return slices.EqualFunc(x, y, func(a, b api.Frac) bool { return sameInt(a.Num, b.Num) && sameInt(a.Den, b.Den) })
}

func sameInt(x, y api.Int) bool { return x.Neg == y.Neg && slices.Equal(x.Mag, y.Mag) }

// is: are these an answer without an error, each in its one form?
func is(t *testing.T, what string, got []api.Frac, e api.Errno, want ...*big.Rat) {
	t.Helper()
	var l []api.Frac
	for _, x := range want {
		l = append(l, of(x))
	}
	if e != api.OK || !same(got, l) {
		t.Fatalf("%s = %s, %v, not %s", what, told(got...), e, told(l...))
	}
}

// refused: is an answer this error, and zero values?
func refused(t *testing.T, what string, got []api.Frac, e, want api.Errno) {
	t.Helper()
	if e != want || !same(got, make([]api.Frac, len(got))) {
		t.Fatalf("%s = %s, %v, not error %v", what, told(got...), e, want)
	}
}

// fits: is an answer what is wanted, or refused where a number of that has too many limbs?
func fits(t *testing.T, what string, got []api.Frac, e api.Errno, want ...*big.Rat) {
	t.Helper()
	if slices.ContainsFunc(want, tooGreat) {
		refused(t, what, got, e, api.ErrLimit)
		return
	}
	is(t, what, got, e, want...)
}

// tooGreat: does it have more limbs than may be?
func tooGreat(x *big.Rat) bool {
	return max(x.Num().BitLen(), x.Denom().BitLen()) > 32*api.MaxLimbs
}

// power: 2^n, and d more.
func power(n uint, d int64) *big.Rat {
	x := new(big.Int).Lsh(big.NewInt(1), n)
	return new(big.Rat).SetInt(x.Add(x, big.NewInt(d)))
}

// most: the greatest whole number that may be.
func most() *big.Rat { return power(32*api.MaxLimbs, -1) }

func rat(n int64) *big.Rat         { return big.NewRat(n, 1) }
func minus(x *big.Rat) *big.Rat    { return new(big.Rat).Neg(x) }
func size(x *big.Rat) *big.Rat     { return new(big.Rat).Abs(x) }
func inverse(x *big.Rat) *big.Rat  { return new(big.Rat).Inv(x) }
func plus(x, y *big.Rat) *big.Rat  { return new(big.Rat).Add(x, y) }
func less(x, y *big.Rat) *big.Rat  { return new(big.Rat).Sub(x, y) }
func times(x, y *big.Rat) *big.Rat { return new(big.Rat).Mul(x, y) }
func over(x, y *big.Rat) *big.Rat  { return new(big.Rat).Quo(x, y) }

// greatest: the greater one of height and steepness, without their signs.
func greatest(r rats) *big.Rat { return slices.MaxFunc(rats{size(r[0]), size(r[1])}, (*big.Rat).Cmp) }

// behind: m behind n.
func behind(m, n rats) rats {
	left, right := through(m, rats{n[0], n[2]}), through(m, rats{n[1], n[3]})
	return rats{left[0], right[0], left[1], right[1]}
}

// through: what becomes of a ray.
func through(m, r rats) rats {
	return rats{plus(times(m[0], r[0]), times(m[1], r[1])), plus(times(m[2], r[0]), times(m[3], r[1]))}
}

func trace(m rats) *big.Rat { return plus(m[0], m[3]) }
func undone(m rats) rats    { return rats{m[3], minus(m[1]), minus(m[2]), m[0]} }
func negated(m rats) rats   { return rats{minus(m[0]), minus(m[1]), minus(m[2]), minus(m[3])} }

// seen: m as it is where o turns rays into those that it knows.
func seen(m, o rats) rats { return behind(undone(o), behind(m, o)) }

// some: a fraction of numbers of up to so many bits, of both signs, at times nought.
func some(r *rand.Rand, bits int) *big.Rat {
	sized := func() *big.Int {
		return new(big.Int).Rand(r, new(big.Int).Lsh(big.NewInt(1), uint(r.Intn(bits)+1)))
	}
	x := new(big.Rat).SetFrac(sized(), plus(rat(1), new(big.Rat).SetInt(sized())).Num())
	if r.Intn(2) == 0 {
		x.Neg(x)
	}
	return x
}

// other: one that is not nought.
func other(r *rand.Rand, bits int) *big.Rat {
	for {
		if x := some(r, bits); x.Sign() != 0 {
			return x
		}
	}
}

func someRay(r *rand.Rand, bits int) rats { return rats{some(r, bits), some(r, bits)} }

// someMatrix: one with the determinant 1; noughts stand in all places at times.
func someMatrix(r *rand.Rand, bits int) rats {
	a, b, c := some(r, bits), some(r, bits), some(r, bits)
	if r.Intn(2) == 0 {
		[]*big.Rat{a, b, c}[r.Intn(3)].SetInt64(0)
	}
	d := some(r, bits)
	switch {
	case a.Sign() != 0:
		d = over(plus(rat(1), times(b, c)), a)
	case b.Sign() != 0:
		c = minus(inverse(b))
	default:
		b, c = rat(-1), rat(1)
	}
	if r.Intn(2) == 0 {
		return rats{d, b, c, a}
	}
	return rats{a, b, c, d}
}

// ofTrace: a matrix of this trace and the determinant 1: B is not nought, or C.
func ofTrace(r *rand.Rand, t *big.Rat, bits int) rats {
	a, b := some(r, bits), other(r, bits)
	d := less(t, a)
	m := rats{a, b, over(less(times(a, d), rat(1)), b), d}
	if r.Intn(2) == 0 {
		m[1], m[2] = m[2], m[1]
	}
	return m
}

// wrongFracs: fractions that may not be, one for each cause.
func wrongFracs() []api.Frac {
	int1 := func(n int64) api.Int { return ofInt(big.NewInt(n)) }
	long := make([]uint32, api.MaxLimbs+1)
	long[api.MaxLimbs] = 1
	l := []api.Frac{{}}
	for _, c := range [][2]int64{{1, 0}, {0, 0}, {1, -1}, {0, -1}, {0, 2}, {2, 4}, {-6, 3}, {3, 3}} {
		l = append(l, api.Frac{Num: int1(c[0]), Den: int1(c[1])})
	}
	for _, x := range []api.Int{{Mag: []uint32{3, 0}}, {Mag: []uint32{0}}, {Neg: true}, {Mag: long}, {Neg: true, Mag: long}} {
		l = append(l, api.Frac{Num: x, Den: int1(1)}, api.Frac{Num: int1(1), Den: x})
	}
	return l
}
