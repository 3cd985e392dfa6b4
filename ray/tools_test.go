package ray_test

import (
	"encoding/binary"
	"math/big"
	"math/rand"
	"slices"
	"testing"

	"polestar/api"
)

// ofInt: a whole number of the library's as the program has it.
func ofInt(n *big.Int) api.Int {
	x := api.Int{Neg: n.Sign() < 0}
	bytes := n.FillBytes(make([]byte, (n.BitLen()+31)/32*4))
	for ; len(bytes) > 0; bytes = bytes[:len(bytes)-4] {
		x.Mag = append(x.Mag, binary.BigEndian.Uint32(bytes[len(bytes)-4:]))
	}
	return x
}

// worthInt: the other way.
func worthInt(x api.Int) *big.Int {
	var bytes []byte
	for _, limb := range slices.Backward(x.Mag) {
		bytes = binary.BigEndian.AppendUint32(bytes, limb)
	}
	n := new(big.Int).SetBytes(bytes)
	if x.Neg {
		n.Neg(n)
	}
	return n
}

// of: a fraction of the library's, which is in lowest terms, as the program has it.
func of(r *big.Rat) api.Frac { return api.Frac{Num: ofInt(r.Num()), Den: ofInt(r.Denom())} }

// worth: the other way.
func worth(x api.Frac) *big.Rat {
	return new(big.Rat).SetFrac(worthInt(x.Num), worthInt(x.Den))
}

func quo(num, den int64) api.Frac { return of(big.NewRat(num, den)) }
func num(n int64) api.Frac        { return quo(n, 1) }

func matrix(a, b, c, d api.Frac) api.Matrix { return api.Matrix{A: a, B: b, C: c, D: d} }
func whole(a, b, c, d int64) api.Matrix     { return matrix(num(a), num(b), num(c), num(d)) }
func beam(y, u int64) api.Ray               { return api.Ray{Y: num(y), U: num(u)} }

// rats is what a fraction, a ray or a matrix is by the library's fractions, in order.
type rats []*big.Rat

// things are what the calls answer.
type things interface {
	api.Frac | api.Ray | api.Matrix
}

// places: where the fractions of a thing stand.
func places(thing any) []*api.Frac {
	switch x := thing.(type) {
	case *api.Frac:
		return []*api.Frac{x}
	case *api.Ray:
		return []*api.Frac{&x.Y, &x.U}
	case *api.Matrix:
		return []*api.Frac{&x.A, &x.B, &x.C, &x.D}
	}
	panic("no thing")
}

// limbs: the lists of a thing, two a fraction.
func limbs(thing any) (all []*[]uint32) {
	for _, x := range places(thing) {
		all = append(all, &x.Num.Mag, &x.Den.Mag)
	}
	return all
}

func worths[T things](x T) (all rats) {
	for _, p := range places(&x) {
		all = append(all, worth(*p))
	}
	return all
}

// made: the thing of these fractions.
func made[T things](all rats) (x T) {
	for i, p := range places(&x) {
		*p = of(all[i])
	}
	return x
}

// same: are two the same, limb by limb? (No limbs are no limbs, nil or not.)
func same[T things](x, y T) bool {
	other := places(&y)
	for i, p := range places(&x) {
		if !sameInt(p.Num, other[i].Num) || !sameInt(p.Den, other[i].Den) {
			return false
		}
	}
	return true
}

func sameInt(x, y api.Int) bool { return x.Neg == y.Neg && slices.Equal(x.Mag, y.Mag) }

// copied: the same thing in other memory.
func copied[T things](x T) T {
	for _, l := range limbs(&x) {
		*l = slices.Clone(*l)
	}
	return x
}

// told: a thing for whoever reads of a test that failed, cut off if it is long.
func told[T things](x T) (s string) {
	for _, p := range places(&x) {
		text := "none"
		if len(p.Den.Mag) > 0 {
			text = worth(*p).RatString()
		}
		s += " " + text[:min(len(text), 60)]
	}
	return s[1:]
}

// is: is an answer this thing, in its one form, without an error?
func is[T things](t *testing.T, what string, got T, e api.Errno, want T) {
	t.Helper()
	if e != api.OK || !same(got, want) {
		t.Fatalf("%s = %s, %v, not %s", what, told(got), e, told(want))
	}
}

// refused: is an answer this error, and the zero value?
func refused[T things](t *testing.T, what string, got T, e, want api.Errno) {
	t.Helper()
	var none T
	if e != want || !same(got, none) {
		t.Fatalf("%s = %s, %v, not error %v", what, told(got), e, want)
	}
}

// fits: is an answer what is wanted, or ErrLimit and the zero value, where a number of that has too many limbs?
func fits[T things](t *testing.T, what string, got T, e api.Errno, want rats) {
	t.Helper()
	for _, x := range want {
		if max(x.Num().BitLen(), x.Denom().BitLen()) > 32*api.MaxLimbs {
			refused(t, what, got, e, api.ErrLimit)
			return
		}
	}
	is(t, what, got, e, made[T](want))
}

// power: 2^n, and d more.
func power(n uint, d int64) *big.Rat {
	x := new(big.Int).Lsh(big.NewInt(1), n)
	return new(big.Rat).SetInt(x.Add(x, big.NewInt(d)))
}

// most: the greatest whole number that may be.
func most() *big.Rat { return power(32*api.MaxLimbs, -1) }

func rat(n int64) *big.Rat             { return big.NewRat(n, 1) }
func minus(x *big.Rat) *big.Rat        { return new(big.Rat).Neg(x) }
func inverse(x *big.Rat) *big.Rat      { return new(big.Rat).Inv(x) }
func plus(x, y *big.Rat) *big.Rat      { return new(big.Rat).Add(x, y) }
func times(x, y *big.Rat) *big.Rat     { return new(big.Rat).Mul(x, y) }
func dot(x, y, z, w *big.Rat) *big.Rat { return plus(times(x, y), times(z, w)) }
func over(x, y *big.Rat) *big.Rat      { return new(big.Rat).Quo(x, y) }

// some: a fraction of numbers of up to so many bits, of both signs, at times nought.
func some(r *rand.Rand, bits int) *big.Rat {
	sized := func() *big.Int {
		return new(big.Int).Rand(r, new(big.Int).Lsh(big.NewInt(1), uint(r.Intn(bits)+1)))
	}
	x := new(big.Rat).SetFrac(sized(), plus(rat(1), new(big.Rat).SetInt(sized())).Num())
	if r.Intn(2) == 0 {
		x.Neg(x)
	}
	return x
}

// someMatrix: one with the determinant 1; noughts stand in all places at times.
func someMatrix(r *rand.Rand, bits int) api.Matrix {
	a, b, c := some(r, bits), some(r, bits), some(r, bits)
	if r.Intn(4) == 0 {
		[]*big.Rat{a, b, c}[r.Intn(3)].SetInt64(0)
	}
	d := some(r, bits)
	switch {
	case a.Sign() != 0:
		d = over(plus(rat(1), times(b, c)), a)
	case b.Sign() != 0:
		c = minus(inverse(b))
	default:
		b, c = rat(-1), rat(1)
	}
	l := rats{a, b, c, d}
	if r.Intn(2) == 0 {
		l = rats{d, b, c, a}
	}
	return made[api.Matrix](l)
}

func someRay(r *rand.Rand, bits int) api.Ray {
	return made[api.Ray](rats{some(r, bits), some(r, bits)})
}

// edges: matrices of noughts and ones, spaces and lenses at the borders of limbs and of the limit, flips.
func edges() []api.Matrix {
	l := []api.Matrix{
		whole(1, 0, 0, 1), whole(-1, 0, 0, -1), whole(0, 1, -1, 0), whole(0, -1, 1, 0), whole(2, 3, 1, 2), whole(1, 1, -1, 0),
		whole(1<<62, 1<<62-1, 1<<62+1, 1<<62), made[api.Matrix](rats{rat(-2), rat(0), rat(0), big.NewRat(-1, 2)}),
	}
	p := power(32*api.MaxLimbs-1, 0)
	for _, x := range []*big.Rat{power(32, -1), power(64, 0), power(96, 1), most(), p, minus(most()), inverse(power(32, 0)), inverse(most()), over(p, most())} {
		for _, m := range []rats{{rat(1), x, rat(0), rat(1)}, {rat(1), rat(0), x, rat(1)}, {x, rat(0), rat(0), inverse(x)}, {rat(0), x, minus(inverse(x)), x}} {
			l = append(l, made[api.Matrix](m))
		}
	}
	return append(l, steep())
}

// steep: a matrix whose fractions are as large as may be: the products of its determinant and of its trips are beyond the limit.
func steep() api.Matrix {
	p := power(32*api.MaxLimbs-1, 0)
	return made[api.Matrix](rats{p, plus(p, rat(-1)), plus(p, rat(1)), p})
}

// matrices: those at the edges, and others.
func matrices() []api.Matrix {
	l, r := edges(), rand.New(rand.NewSource(90))
	for i := range 800 {
		l = append(l, someMatrix(r, 3+i%200))
	}
	return l
}

// pairs: pairs of matrices between edges, and of others.
func pairs(ask func(m, n api.Matrix)) {
	l := edges()
	for i, m := range l {
		for j := i % 3; j < len(l); j += 3 {
			ask(m, l[j])
		}
	}
	all := matrices()
	for i, m := range all {
		ask(m, m)
		ask(m, all[len(all)-1-i])
		ask(whole(0, -1, 1, 0), m)
	}
}

// rays: rays at the edges, and others.
func rays() []api.Ray {
	l := []api.Ray{beam(0, 0), beam(1, 0), beam(0, 1), beam(-3, 4), beam(1<<62, -1<<62)}
	for _, y := range []*big.Rat{most(), minus(most()), inverse(most())} {
		for _, u := range []*big.Rat{rat(0), most(), minus(inverse(most()))} {
			l = append(l, made[api.Ray](rats{y, u}), made[api.Ray](rats{u, y}))
		}
	}
	r := rand.New(rand.NewSource(91))
	for i := range 40 {
		l = append(l, someRay(r, 3+i*5))
	}
	return l
}

// wrongFracs: fractions that may not be, one for each cause.
func wrongFracs() []api.Frac {
	int1 := func(n int64) api.Int { return ofInt(big.NewInt(n)) }
	long := make([]uint32, api.MaxLimbs+1)
	long[api.MaxLimbs] = 1
	l := []api.Frac{{}}
	for _, c := range [][2]int64{{1, 0}, {0, 0}, {1, -1}, {0, -1}, {0, 2}, {2, 4}, {-6, 3}, {3, 3}} {
		l = append(l, api.Frac{Num: int1(c[0]), Den: int1(c[1])})
	}
	for _, x := range []api.Int{{Mag: []uint32{3, 0}}, {Mag: []uint32{0}}, {Neg: true}, {Mag: long}, {Neg: true, Mag: long}} {
		l = append(l, api.Frac{Num: x, Den: int1(1)}, api.Frac{Num: int1(1), Den: x})
	}
	return l
}
