package frac_test

import (
	"encoding/binary"
	"math/big"
	"math/rand"
	"slices"
	"testing"

	"polestar/api"
	"polestar/frac"
)

// ofInt: a whole number of the library's as the program has it.
func ofInt(n *big.Int) api.Int {
	x := api.Int{Neg: n.Sign() < 0}
	bytes := n.FillBytes(make([]byte, (n.BitLen()+31)/32*4))
	for ; len(bytes) > 0; bytes = bytes[:len(bytes)-4] {
		x.Mag = append(x.Mag, binary.BigEndian.Uint32(bytes[len(bytes)-4:]))
	}
	return x
}

// worthInt: the other way.
func worthInt(x api.Int) *big.Int {
	var bytes []byte
	for _, limb := range slices.Backward(x.Mag) {
		bytes = binary.BigEndian.AppendUint32(bytes, limb)
	}
	n := new(big.Int).SetBytes(bytes)
	if x.Neg {
		n.Neg(n)
	}
	return n
}

// of: a fraction of the library's, which is in lowest terms, as the program has it.
func of(r *big.Rat) api.Frac { return api.Frac{Num: ofInt(r.Num()), Den: ofInt(r.Denom())} }

// worth: the other way.
func worth(x api.Frac) *big.Rat {
	return new(big.Rat).SetFrac(worthInt(x.Num), worthInt(x.Den))
}

// over: num / den as the library has it.
func over(num, den *big.Int) *big.Rat { return new(big.Rat).SetFrac(num, den) }

// small: num / den of small numbers.
func small(num, den int64) api.Frac { return of(big.NewRat(num, den)) }

// power: 2^n, and d more.
func power(n uint, d int64) *big.Int {
	x := new(big.Int).Lsh(big.NewInt(1), n)
	return x.Add(x, big.NewInt(d))
}

// The greatest whole number that may be, and one of as many limbs that has nothing in common with it.
func most() *big.Int  { return power(32*api.MaxLimbs, -1) }
func other() *big.Int { return power(32*api.MaxLimbs-1, 0) }

// minus: with the other sign.
func minus(n *big.Int) *big.Int { return new(big.Int).Neg(n) }

// sameInt: are two the same, limb by limb? (No limbs are no limbs, nil or not.)
func sameInt(x, y api.Int) bool { return x.Neg == y.Neg && slices.Equal(x.Mag, y.Mag) }

func same(x, y api.Frac) bool { return sameInt(x.Num, y.Num) && sameInt(x.Den, y.Den) }

// copied: the same fraction in other memory.
func copied(x api.Frac) api.Frac {
	x.Num.Mag, x.Den.Mag = slices.Clone(x.Num.Mag), slices.Clone(x.Den.Mag)
	return x
}

// fits: is an answer the fraction that is wanted, in its one form, or ErrLimit and the zero value where that has too many limbs?
func fits(t *testing.T, what string, got api.Frac, e api.Errno, want *big.Rat) {
	t.Helper()
	if max(want.Num().BitLen(), want.Denom().BitLen()) > 32*api.MaxLimbs {
		refused(t, what, got, e, api.ErrLimit)
		return
	}
	if e != api.OK || !same(got, of(want)) {
		t.Fatalf("%s = %v, %v, not %v", what, got, e, want)
	}
}

// refused: is an answer this error, and the zero value?
func refused(t *testing.T, what string, got api.Frac, e, want api.Errno) {
	t.Helper()
	if e != want || !same(got, api.Frac{}) {
		t.Fatalf("%s = %v, %v, not error %v", what, got, e, want)
	}
}

// wrongInts: whole numbers that may not be, one for each cause.
func wrongInts() []api.Int {
	long := make([]uint32, api.MaxLimbs+1)
	long[api.MaxLimbs] = 1
	return []api.Int{
		{Mag: []uint32{0}},
		{Mag: []uint32{3, 0}},
		{Neg: true, Mag: []uint32{3, 5, 0}},
		{Neg: true},
		{Mag: long},
		{Neg: true, Mag: long},
		{Mag: make([]uint32, api.MaxLimbs+3)},
	}
}

// wrong: fractions that may not be.
func wrong() []api.Frac {
	made := func(num, den *big.Int) api.Frac { return api.Frac{Num: ofInt(num), Den: ofInt(den)} }
	l := []api.Frac{{}}
	for _, c := range [][2]int64{
		{1, 0}, {0, 0}, {-1, 0}, // no denominator
		{1, -1}, {0, -1}, {1, -2}, {-3, -2}, // one below nought
		{0, 2}, {2, 4}, {-2, 4}, {6, 3}, {3, 3}, {-15, 35}, {1 << 40, 2}, // not in lowest terms
	} {
		l = append(l, made(big.NewInt(c[0]), big.NewInt(c[1])))
	}
	p := power(127, -1)
	l = append(l,
		made(minus(p), new(big.Int).Mul(p, p)),
		made(new(big.Int).Mul(p, power(200, 3)), new(big.Int).Mul(p, power(200, 1))),
		made(most(), most()),
		made(new(big.Int), most()),
		made(other(), power(60, 0)),
	)
	for _, x := range wrongInts() {
		l = append(l, api.Frac{Num: x, Den: ofInt(big.NewInt(1))}, api.Frac{Num: ofInt(big.NewInt(1)), Den: x}, api.Frac{Num: x, Den: x})
	}
	return l
}

// edges: fractions about all borders, of both signs.
func edges() []api.Frac {
	var sizes []*big.Int
	for _, n := range []uint{0, 1, 5, 32, 64, 96, 128} {
		for d := int64(-1); d <= 1; d++ {
			if n != 5 || d != 1 {
				sizes = append(sizes, power(n, d))
			}
		}
	}
	l := []api.Frac{small(0, 1)}
	for i, num := range sizes {
		for _, den := range sizes[i%3:] {
			if num.Sign() > 0 && den.Sign() > 0 {
				l = append(l, of(over(num, den)), of(over(minus(num), den)))
			}
		}
	}
	return l
}

// huge: fractions as large as may be.
func huge() []api.Frac {
	one := big.NewInt(1)
	return []api.Frac{
		of(over(most(), one)), of(over(minus(most()), one)), of(over(other(), one)),
		of(over(one, most())), of(over(minus(one), other())),
		of(over(most(), other())), of(over(minus(other()), most())),
	}
}

// sized: a whole number of up to so many bits, of both signs.
func sized(r *rand.Rand, bits int) *big.Int {
	n := new(big.Int).Rand(r, power(uint(r.Intn(bits)+1), 0))
	if r.Intn(2) == 0 {
		n.Neg(n)
	}
	return n
}

// some: a fraction of numbers of up to so many bits.
func some(r *rand.Rand, bits int) api.Frac {
	den := sized(r, bits)
	if den.Sign() == 0 {
		den.SetInt64(1)
	}
	return of(over(sized(r, bits), den))
}

// pairs: pairs of edges, of those as large as may be, and of others, among them such as have much in common.
func pairs(ask func(x, y api.Frac)) {
	l := edges()
	for i, x := range l {
		for j := i % 29; j < len(l); j += 29 {
			ask(x, l[j])
			ask(l[j], x)
		}
		ask(x, x)
	}
	for i, x := range huge() {
		ask(x, x)
		ask(x, huge()[(i+2)%len(huge())])
		for _, y := range []api.Frac{small(0, 1), small(1, 1), small(-1, 2), small(-3, 5)} {
			ask(x, y)
			ask(y, x)
		}
	}
	r := rand.New(rand.NewSource(21))
	for i := range 1200 {
		x, y := some(r, 20+i%300), some(r, 20+i%300)
		ask(x, y)
		ask(x, of(new(big.Rat).Neg(worth(x))))
		if y.Num.Mag != nil {
			ask(of(new(big.Rat).Mul(worth(x), worth(y))), of(new(big.Rat).Quo(worth(x), worth(y))))
			ask(of(new(big.Rat).Add(worth(x), worth(y))), y)
		}
	}
}

// two is a call of two fractions, and what the library says of it.
type two struct {
	name string
	do   func(x, y api.Frac) (api.Frac, api.Errno)
	is   func(z, x, y *big.Rat) *big.Rat
}

func twos() []two {
	return []two{
		{"Add", frac.Add, (*big.Rat).Add}, {"Sub", frac.Sub, (*big.Rat).Sub},
		{"Mul", frac.Mul, (*big.Rat).Mul}, {"Quo", frac.Quo, (*big.Rat).Quo},
	}
}
