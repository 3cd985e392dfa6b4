package bench_test

import (
	"encoding/binary"
	"math/big"
	"math/rand"
	"slices"
	"strings"
	"testing"

	"polestar/api"
)

// ofInt: a whole number of the library's as the program has it.
func ofInt(n *big.Int) api.Int {
	x := api.Int{Neg: n.Sign() < 0}
	bytes := n.FillBytes(make([]byte, (n.BitLen()+31)/32*4))
	for ; len(bytes) > 0; bytes = bytes[:len(bytes)-4] {
		x.Mag = append(x.Mag, binary.BigEndian.Uint32(bytes[len(bytes)-4:]))
	}
	return x
}

// worthInt: the other way.
func worthInt(x api.Int) *big.Int {
	var bytes []byte
	for _, limb := range slices.Backward(x.Mag) {
		bytes = binary.BigEndian.AppendUint32(bytes, limb)
	}
	n := new(big.Int).SetBytes(bytes)
	if x.Neg {
		n.Neg(n)
	}
	return n
}

// of: a fraction of the library's, which is in lowest terms, as the program has it.
func of(r *big.Rat) api.Frac { return api.Frac{Num: ofInt(r.Num()), Den: ofInt(r.Denom())} }

// worth: the other way.
func worth(x api.Frac) *big.Rat {
	return new(big.Rat).SetFrac(worthInt(x.Num), worthInt(x.Den))
}

// parse: a fraction as it is written down.
func parse(s string) *big.Rat {
	x, ok := new(big.Rat).SetString(s)
	if !ok {
		panic(s)
	}
	return x
}

func num(n int64) api.Frac { return of(rat(n)) }

// row: elements as the chapter's examples have them: s 1/2, l 2, b 3 3/2, u 1/2 -1/2, f.
func row(text string) (l []api.Element) {
	if text == "" {
		return nil
	}
	for _, part := range strings.Split(text, ", ") {
		words := append(strings.Fields(part), "0", "0")[:3]
		if kind := strings.Index(" slbuf", words[0]); kind > 0 {
			l = append(l, element(api.ElementKind(kind), parse(words[1]), parse(words[2])))
			continue
		}
		panic(part)
	}
	return l
}

func element(kind api.ElementKind, p, q *big.Rat) api.Element {
	return api.Element{Kind: kind, P: of(p), Q: of(q)}
}

func space(p *big.Rat) api.Element      { return element(api.ElSpace, p, rat(0)) }
func lens(p *big.Rat) api.Element       { return element(api.ElLens, p, rat(0)) }
func slab(p, q *big.Rat) api.Element    { return element(api.ElSlab, p, q) }
func surface(p, q *big.Rat) api.Element { return element(api.ElSurface, p, q) }
func flip() api.Element                 { return element(api.ElFlip, rat(0), rat(0)) }

// matrix and beam: of fractions as they are written down.
func matrix(text string) api.Matrix { return madeOf[api.Matrix](text) }
func beam(text string) api.Ray      { return madeOf[api.Ray](text) }

func madeOf[T api.Matrix | api.Ray](text string) T {
	var l rats
	for _, s := range strings.Fields(text) {
		l = append(l, parse(s))
	}
	return made[T](l)
}

// rats is what a fraction, a ray or a matrix is by the library's fractions, in order.
type rats []*big.Rat

// things are what the calls answer.
type things interface {
	api.Frac | api.Matrix | []api.Ray | []api.Element
}

// places: where the fractions of a thing stand.
func places(thing any) (l []*api.Frac) {
	switch x := thing.(type) {
	case *api.Frac:
		return []*api.Frac{x}
	case *api.Ray:
		return []*api.Frac{&x.Y, &x.U}
	case *api.Matrix:
		return []*api.Frac{&x.A, &x.B, &x.C, &x.D}
	case *api.Element:
		return []*api.Frac{&x.P, &x.Q}
	case *[]api.Ray:
		for i := range *x {
			l = append(l, places(&(*x)[i])...)
		}
		return l
	case *[]api.Element:
		for i := range *x {
			l = append(l, places(&(*x)[i])...)
		}
		return l
	}
	panic("no thing")
}

// kinds: those of a bench; of other things none.
func kinds(thing any) (l []api.ElementKind) {
	if x, ok := thing.(*[]api.Element); ok {
		for _, e := range *x {
			l = append(l, e.Kind)
		}
	}
	return l
}

// limbs: the lists of a thing, two a fraction.
func limbs(thing any) (all []*[]uint32) {
	for _, x := range places(thing) {
		all = append(all, &x.Num.Mag, &x.Den.Mag)
	}
	return all
}

// worths: the fractions of a thing.
func worths(thing any) (all rats) {
	for _, p := range places(thing) {
		all = append(all, worth(*p))
	}
	return all
}

// made: the matrix, the ray, the fraction of these.
func made[T api.Frac | api.Ray | api.Matrix](all rats) (x T) {
	for i, p := range places(&x) {
		*p = of(all[i])
	}
	return x
}

// same: are two the same, limb by limb? (No limbs are no limbs, nil or not.)
func same[T things](x, y T) bool {
	mine, other := places(&x), places(&y)
	if len(mine) != len(other) || !slices.Equal(kinds(&x), kinds(&y)) {
		return false
	}
	for i, p := range mine {
		if !sameInt(p.Num, other[i].Num) || !sameInt(p.Den, other[i].Den) {
			return false
		}
	}
	return true
}

func sameInt(x, y api.Int) bool { return x.Neg == y.Neg && slices.Equal(x.Mag, y.Mag) }

// told: a thing for whoever reads of a test that failed, cut off if it is long.
func told[T things](x T) string {
	var s strings.Builder
	each, kinds := places(&x), kinds(&x)
	for i, p := range each[:min(len(each), 24)] {
		if i%2 == 0 && len(kinds) > 0 {
			s.WriteString(" " + string("?slbuf????"[min(kinds[i/2], 9)]))
		}
		text := "none"
		if len(p.Den.Mag) > 0 {
			text = worth(*p).RatString()
		}
		s.WriteString(" " + text[:min(len(text), 40)])
	}
	return "[" + strings.TrimSpace(s.String()) + "]"
}

// is: is an answer this thing, in its one form, without an error?
func is[T things](t *testing.T, what string, got T, e api.Errno, want T) {
	t.Helper()
	if e != api.OK || !same(got, want) {
		t.Fatalf("%s = %s, %v, not %s", what, told(got), e, told(want))
	}
}

// refused: is an answer this error, and the zero value?
func refused[T things](t *testing.T, what string, got T, e, want api.Errno) {
	t.Helper()
	var none T
	if e != want || !same(got, none) {
		t.Fatalf("%s = %s, %v, not error %v", what, told(got), e, want)
	}
}

// fits: is an answer what is wanted, or ErrLimit and the zero value, where a number of that has too many limbs?
func fits[T things](t *testing.T, what string, got T, e api.Errno, want T) {
	t.Helper()
	if limitOf(want) != api.OK {
		refused(t, what, got, e, api.ErrLimit)
		return
	}
	is(t, what, got, e, want)
}

// limitOf: ErrLimit, if a number of a thing has too many limbs.
func limitOf[T things](x T) api.Errno {
	for _, l := range limbs(&x) {
		if len(*l) > api.MaxLimbs {
			return api.ErrLimit
		}
	}
	return api.OK
}

// power: 2^n, and d more.
func power(n uint, d int64) *big.Rat {
	x := new(big.Int).Lsh(big.NewInt(1), n)
	return new(big.Rat).SetInt(x.Add(x, big.NewInt(d)))
}

// most: the greatest whole number that may be.
func most() *big.Rat { return power(32*api.MaxLimbs, -1) }

func rat(n int64) *big.Rat         { return big.NewRat(n, 1) }
func minus(x *big.Rat) *big.Rat    { return new(big.Rat).Neg(x) }
func inverse(x *big.Rat) *big.Rat  { return new(big.Rat).Inv(x) }
func plus(x, y *big.Rat) *big.Rat  { return new(big.Rat).Add(x, y) }
func less(x, y *big.Rat) *big.Rat  { return new(big.Rat).Sub(x, y) }
func times(x, y *big.Rat) *big.Rat { return new(big.Rat).Mul(x, y) }
func over(x, y *big.Rat) *big.Rat  { return new(big.Rat).Quo(x, y) }

// some: a fraction of numbers of up to so many bits, of both signs, at times nought.
func some(r *rand.Rand, bits int) *big.Rat {
	sized := func() *big.Int {
		return new(big.Int).Rand(r, new(big.Int).Lsh(big.NewInt(1), uint(r.Intn(bits)+1)))
	}
	x := new(big.Rat).SetFrac(sized(), plus(rat(1), new(big.Rat).SetInt(sized())).Num())
	if r.Intn(2) == 0 {
		x.Neg(x)
	}
	return x
}

// someBench: elements of all kinds, at times empty, at times what undoes the one ahead.
func someBench(r *rand.Rand, length, bits int) (l []api.Element) {
	for range length {
		p, q := some(r, bits), some(r, bits)
		long := new(big.Rat).Abs(p)
		switch kind := r.Intn(8); kind {
		case 0:
			l = append(l, space(long))
		case 1:
			l = append(l, lens(p))
		case 2:
			l = append(l, slab(long, plus(new(big.Rat).Abs(q), big.NewRat(1, 3))))
		case 3:
			l = append(l, surface(p, q))
		case 4, 5:
			l = append(l, flip())
		default:
			l = append(l, undoing(l, kind))
		}
	}
	return l
}

// undoing: a lens that undoes the last element, if that is one; else what does nothing.
func undoing(l []api.Element, kind int) api.Element {
	if n := len(l); n > 0 && l[n-1].Kind == api.ElLens {
		return lens(minus(worth(l[n-1].P)))
	}
	if kind == 6 {
		return space(rat(0))
	}
	return lens(rat(0))
}

// benches: short and long ones, of small and great numbers.
func benches() (all [][]api.Element) {
	r := rand.New(rand.NewSource(100))
	for i := range 600 {
		all = append(all, someBench(r, i%14, 2+i%5*9))
	}
	return append(all, someBench(r, 200, 3), someBench(r, 500, 2), someBench(r, 30, 2000))
}

// someMatrix: one with the determinant 1; noughts stand in all places at times.
func someMatrix(r *rand.Rand, bits int) api.Matrix {
	a, b, c := some(r, bits), some(r, bits), some(r, bits)
	if r.Intn(3) == 0 {
		[]*big.Rat{a, b, b, c}[r.Intn(4)].SetInt64(0)
	}
	d := some(r, bits)
	switch {
	case a.Sign() != 0:
		d = over(plus(rat(1), times(b, c)), a)
	case b.Sign() != 0:
		c = minus(inverse(b))
	default:
		b, c = rat(-1), rat(1)
	}
	return made[api.Matrix](rats{a, b, c, d})
}

// wrongFracs: fractions that may not be, one for each cause.
func wrongFracs() []api.Frac {
	int1 := func(n int64) api.Int { return ofInt(big.NewInt(n)) }
	long := make([]uint32, api.MaxLimbs+1)
	long[api.MaxLimbs] = 1
	l := []api.Frac{{}}
	for _, c := range [][2]int64{{1, 0}, {0, 0}, {1, -1}, {0, -1}, {0, 2}, {2, 4}, {-6, 3}, {3, 3}} {
		l = append(l, api.Frac{Num: int1(c[0]), Den: int1(c[1])})
	}
	for _, x := range []api.Int{{Mag: []uint32{3, 0}}, {Mag: []uint32{0}}, {Neg: true}, {Mag: long}, {Neg: true, Mag: long}} {
		l = append(l, api.Frac{Num: x, Den: int1(1)}, api.Frac{Num: int1(1), Den: x})
	}
	return l
}
