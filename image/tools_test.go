package image_test

import (
	"encoding/binary"
	"math/big"
	"math/rand"
	"slices"
	"strings"
	"testing"

	"polestar/api"
	"polestar/image"
)

// ofInt: a whole number of the library's as the program has it.
func ofInt(n *big.Int) api.Int {
	x := api.Int{Neg: n.Sign() < 0}
	bytes := n.FillBytes(make([]byte, (n.BitLen()+31)/32*4))
	for ; len(bytes) > 0; bytes = bytes[:len(bytes)-4] {
		x.Mag = append(x.Mag, binary.BigEndian.Uint32(bytes[len(bytes)-4:]))
	}
	return x
}

// worthInt: the other way.
func worthInt(x api.Int) *big.Int {
	var bytes []byte
	for _, limb := range slices.Backward(x.Mag) {
		bytes = binary.BigEndian.AppendUint32(bytes, limb)
	}
	n := new(big.Int).SetBytes(bytes)
	if x.Neg {
		n.Neg(n)
	}
	return n
}

// of: a fraction of the library's, which is in lowest terms, as the program has it.
func of(r *big.Rat) api.Frac { return api.Frac{Num: ofInt(r.Num()), Den: ofInt(r.Denom())} }

// worth: the other way.
func worth(x api.Frac) *big.Rat {
	return new(big.Rat).SetFrac(worthInt(x.Num), worthInt(x.Den))
}

// parse: a fraction as it is written down.
func parse(s string) *big.Rat {
	x, ok := new(big.Rat).SetString(s)
	if !ok {
		panic(s)
	}
	return x
}

// rats is what fractions are by the library's, in order.
type rats []*big.Rat

// row: fractions as they are written down.
func row(text string) (l rats) {
	for _, s := range strings.Fields(text) {
		l = append(l, parse(s))
	}
	return l
}

func num(text string) api.Frac      { return of(parse(text)) }
func matrix(text string) api.Matrix { return made(row(text)) }
func made(l rats) api.Matrix        { return api.Matrix{A: of(l[0]), B: of(l[1]), C: of(l[2]), D: of(l[3])} }
func worths(m api.Matrix) rats      { return rats{worth(m.A), worth(m.B), worth(m.C), worth(m.D)} }

// places: where the fractions of a matrix stand.
func places(m *api.Matrix) []*api.Frac { return []*api.Frac{&m.A, &m.B, &m.C, &m.D} }

// call is one of those that answer fractions, of a matrix and, where it takes one, of a fraction.
type call func(m api.Matrix, x api.Frac) ([]api.Frac, api.Errno)

func power(m api.Matrix, _ api.Frac) ([]api.Frac, api.Errno) {
	x, e := image.Power(m)
	return []api.Frac{x}, e
}

func planes(m api.Matrix, _ api.Frac) ([]api.Frac, api.Errno) {
	front, back, e := image.Planes(m)
	return []api.Frac{front, back}, e
}

func imaged(m api.Matrix, ahead api.Frac) ([]api.Frac, api.Errno) {
	behind, times, e := image.Image(m, ahead)
	return []api.Frac{behind, times}, e
}

func stop(m api.Matrix, opening api.Frac) ([]api.Frac, api.Errno) {
	x, e := image.Stop(m, opening)
	return []api.Frac{x}, e
}

// sharp: 1 for true, as a fraction; the zero value for false.
func sharp(m api.Matrix, _ api.Frac) ([]api.Frac, api.Errno) {
	is, e := image.Sharp(m)
	if is {
		return []api.Frac{of(rat(1))}, e
	}
	return []api.Frac{{}}, e
}

func calls() map[string]call {
	return map[string]call{"Power": power, "Planes": planes, "Image": imaged, "Stop": stop, "Sharp": sharp}
}

// same: are they the same, limb by limb? (No limbs are no limbs, nil or not.)
func same(x, y []api.Frac) bool {
	return slices.EqualFunc(x, y, func(a, b api.Frac) bool { return sameInt(a.Num, b.Num) && sameInt(a.Den, b.Den) })
}

func sameInt(x, y api.Int) bool { return x.Neg == y.Neg && slices.Equal(x.Mag, y.Mag) }

// told: fractions for whoever reads of a test that failed, cut off if they are long.
func told(l ...api.Frac) string {
	var s []string
	for _, x := range l {
		text := "none"
		if len(x.Den.Mag) > 0 {
			text = worth(x).RatString()
		}
		s = append(s, text[:min(len(text), 60)])
	}
	return strings.Join(s, " ")
}

func toldMatrix(m api.Matrix) string { return told(m.A, m.B, m.C, m.D) }

// is: are these an answer without an error, each in its one form?
func is(t *testing.T, what string, got []api.Frac, e api.Errno, want ...*big.Rat) {
	t.Helper()
	var l []api.Frac
	for _, x := range want {
		l = append(l, of(x))
	}
	if e != api.OK || !same(got, l) {
		t.Fatalf("%s = %s, %v, not %s", what, told(got...), e, told(l...))
	}
}

// refused: is an answer this error, and zero values?
func refused(t *testing.T, what string, got []api.Frac, e, want api.Errno) {
	t.Helper()
	if e != want || !same(got, make([]api.Frac, len(got))) {
		t.Fatalf("%s = %s, %v, not error %v", what, told(got...), e, want)
	}
}

// fits: is an answer what is wanted: ErrZero, where there is nothing, ErrLimit, where a number has too many limbs?
func fits(t *testing.T, what string, got []api.Frac, e api.Errno, want rats) {
	t.Helper()
	switch {
	case len(want) == 0:
		refused(t, what, got, e, api.ErrZero)
	case slices.ContainsFunc(want, tooGreat):
		refused(t, what, got, e, api.ErrLimit)
	default:
		is(t, what, got, e, want...)
	}
}

// tooGreat: does it have more limbs than may be?
func tooGreat(x *big.Rat) bool {
	return max(x.Num().BitLen(), x.Denom().BitLen()) > 32*api.MaxLimbs
}

// two: 2^n, and d more.
func two(n uint, d int64) *big.Rat {
	x := new(big.Int).Lsh(big.NewInt(1), n)
	return new(big.Rat).SetInt(x.Add(x, big.NewInt(d)))
}

// most: the greatest whole number that may be.
func most() *big.Rat { return two(32*api.MaxLimbs, -1) }

func rat(n int64) *big.Rat         { return big.NewRat(n, 1) }
func minus(x *big.Rat) *big.Rat    { return new(big.Rat).Neg(x) }
func size(x *big.Rat) *big.Rat     { return new(big.Rat).Abs(x) }
func inverse(x *big.Rat) *big.Rat  { return new(big.Rat).Inv(x) }
func plus(x, y *big.Rat) *big.Rat  { return new(big.Rat).Add(x, y) }
func less(x, y *big.Rat) *big.Rat  { return new(big.Rat).Sub(x, y) }
func times(x, y *big.Rat) *big.Rat { return new(big.Rat).Mul(x, y) }
func over(x, y *big.Rat) *big.Rat  { return new(big.Rat).Quo(x, y) }

// some: a fraction of numbers of up to so many bits, of both signs, at times nought.
func some(r *rand.Rand, bits int) *big.Rat {
	sized := func() *big.Int {
		return new(big.Int).Rand(r, new(big.Int).Lsh(big.NewInt(1), uint(r.Intn(bits)+1)))
	}
	x := new(big.Rat).SetFrac(sized(), plus(rat(1), new(big.Rat).SetInt(sized())).Num())
	if r.Intn(2) == 0 {
		x.Neg(x)
	}
	return x
}

// someMatrix: one with the determinant 1; noughts stand in all places at times.
func someMatrix(r *rand.Rand, bits int) api.Matrix {
	a, b, c := some(r, bits), some(r, bits), some(r, bits)
	if r.Intn(2) == 0 {
		[]*big.Rat{a, b, c}[r.Intn(3)].SetInt64(0)
	}
	d := some(r, bits)
	switch {
	case a.Sign() != 0:
		d = over(plus(rat(1), times(b, c)), a)
	case b.Sign() != 0:
		c = minus(inverse(b))
	default:
		b, c = rat(-1), rat(1)
	}
	l := rats{a, b, c, d}
	if r.Intn(2) == 0 {
		l = rats{d, b, c, a}
	}
	return made(l)
}

// edges: matrices of noughts and ones, spaces and lenses at the borders of limbs and of the limit, flips.
func edges() []api.Matrix {
	var l []api.Matrix
	for _, text := range []string{
		"1 0 0 1", "-1 0 0 -1", "0 1 -1 0", "0 -1 1 0", "2 3 1 2", "1 1 -1 0", "0 1 -1 1", "1 0 -1 1", "1 1 0 1", "1 -2 0 1", "-1 3 0 -1", "-1 0 3 -1",
		"-2 0 0 -1/2", "1/3 0 5 3", "4/3 1/2 2/3 1", "18446744073709551615 1 -1 0",
	} {
		l = append(l, matrix(text))
	}
	p := two(32*api.MaxLimbs-1, 0)
	for _, x := range []*big.Rat{two(32, -1), two(64, 0), two(96, 1), most(), p, minus(most()), inverse(two(32, 0)), inverse(most()), over(p, most())} {
		for _, m := range []rats{{rat(1), x, rat(0), rat(1)}, {rat(1), rat(0), x, rat(1)}, {x, rat(0), rat(0), inverse(x)}, {rat(0), x, minus(inverse(x)), x}} {
			l = append(l, made(m))
		}
	}
	return append(l, steep())
}

// steep: a matrix whose fractions are as large as may be: the products of its determinant are beyond the limit.
func steep() api.Matrix {
	p := two(32*api.MaxLimbs-1, 0)
	return made(rats{p, plus(p, rat(-1)), plus(p, rat(1)), p})
}

// matrices: those at the edges, and others.
func matrices() []api.Matrix {
	l, r := edges(), rand.New(rand.NewSource(110))
	for i := range 800 {
		l = append(l, someMatrix(r, 3+i%200))
	}
	return l
}

// wrongFracs: fractions that may not be, one for each cause.
func wrongFracs() []api.Frac {
	int1 := func(n int64) api.Int { return ofInt(big.NewInt(n)) }
	long := make([]uint32, api.MaxLimbs+1)
	long[api.MaxLimbs] = 1
	l := []api.Frac{{}}
	for _, c := range [][2]int64{{1, 0}, {0, 0}, {1, -1}, {0, -1}, {0, 2}, {2, 4}, {-6, 3}, {3, 3}} {
		l = append(l, api.Frac{Num: int1(c[0]), Den: int1(c[1])})
	}
	for _, x := range []api.Int{{Mag: []uint32{3, 0}}, {Mag: []uint32{0}}, {Neg: true}, {Mag: long}, {Neg: true, Mag: long}} {
		l = append(l, api.Frac{Num: x, Den: int1(1)}, api.Frac{Num: int1(1), Den: x})
	}
	return l
}
