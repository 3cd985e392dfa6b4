package whole_test

import (
	"encoding/binary"
	"math/big"
	"math/rand"
	"slices"
	"testing"

	"polestar/api"
	"polestar/whole"
)

// Numbers that may not be, one for each cause.
func wrong() []api.Int {
	return []api.Int{
		{Mag: []uint32{0}},
		{Mag: []uint32{1, 0}},
		{Neg: true, Mag: []uint32{7, 0, 0}},
		{Neg: true},
		{Neg: true, Mag: []uint32{}},
		top(api.MaxLimbs + 1),
		{Neg: true, Mag: top(api.MaxLimbs + 1).Mag},
		{Mag: make([]uint32, api.MaxLimbs+5)},
	}
}

// top: a number of so many limbs, the last of which is 1, the others 0.
func top(limbs int) api.Int {
	l := make([]uint32, limbs)
	l[limbs-1] = 1
	return api.Int{Mag: l}
}

// full: the greatest number of so many limbs.
func full(limbs int) api.Int {
	return api.Int{Mag: slices.Repeat([]uint32{1<<32 - 1}, limbs)}
}

// minus: the number with the other sign.
func minus(x api.Int) api.Int {
	return api.Int{Neg: !x.Neg && len(x.Mag) > 0, Mag: slices.Clone(x.Mag)}
}

// big2: 2^n, and d more.
func big2(n uint, d int64) *big.Int {
	x := new(big.Int).Lsh(big.NewInt(1), n)
	return x.Add(x, big.NewInt(d))
}

// worth: a number as the library has it.
func worth(x api.Int) *big.Int {
	var bytes []byte
	for _, limb := range slices.Backward(x.Mag) {
		bytes = binary.BigEndian.AppendUint32(bytes, limb)
	}
	n := new(big.Int).SetBytes(bytes)
	if x.Neg {
		n.Neg(n)
	}
	return n
}

// of: the other way.
func of(n *big.Int) api.Int {
	x := api.Int{Neg: n.Sign() < 0}
	bytes := n.FillBytes(make([]byte, (n.BitLen()+31)/32*4))
	for ; len(bytes) > 0; bytes = bytes[:len(bytes)-4] {
		x.Mag = append(x.Mag, binary.BigEndian.Uint32(bytes[len(bytes)-4:]))
	}
	return x
}

// same: are two the same, limb by limb? (No limbs are no limbs, nil or not.)
func same(x, y api.Int) bool {
	return x.Neg == y.Neg && slices.Equal(x.Mag, y.Mag)
}

// edges: numbers about all borders, with both signs.
func edges() []api.Int {
	var l []api.Int
	for _, n := range []uint{0, 1, 2, 31, 32, 33, 63, 64, 65, 96, 127, 128, 192} {
		for d := int64(-1); d <= 1; d++ {
			x := big2(n, d)
			l = append(l, of(x), of(x.Neg(x)))
		}
	}
	return append(l, full(api.MaxLimbs), minus(full(api.MaxLimbs)), top(api.MaxLimbs), full(api.MaxLimbs/2))
}

// sized: a number of up to so many limbs.
func sized(r *rand.Rand, limbs int) api.Int {
	l := make([]uint32, r.Intn(limbs+1))
	runs := r.Intn(2) == 0
	for i := range l {
		l[i] = r.Uint32()
		if runs {
			l[i] = -uint32(r.Intn(2))
		}
	}
	for len(l) > 0 && l[len(l)-1] == 0 {
		l = l[:len(l)-1]
	}
	return api.Int{Neg: len(l) > 0 && r.Intn(2) == 0, Mag: l}
}

// pairs: all pairs of edges, and others.
func pairs(ask func(x, y api.Int)) {
	for _, x := range edges() {
		for _, y := range edges() {
			ask(x, y)
		}
	}
	r := rand.New(rand.NewSource(7))
	for range 2000 {
		ask(sized(r, 12), sized(r, 12))
	}
	for range 20 {
		ask(sized(r, api.MaxLimbs), sized(r, api.MaxLimbs))
	}
}

// fits: is an answer the number that is wanted, or ErrLimit and nought where that has too many limbs?
func fits(t *testing.T, what string, got api.Int, e api.Errno, want *big.Int) {
	t.Helper()
	if want.BitLen() > 32*api.MaxLimbs {
		if e != api.ErrLimit || !same(got, api.Int{}) {
			t.Fatalf("%s: %v, %v, not ErrLimit", what, got, e)
		}
		return
	}
	if e != api.OK || !same(got, of(want)) {
		t.Fatalf("%s = %v, %v, not %v", what, got, e, want)
	}
}

// refused: is an answer this error, and nought?
func refused(t *testing.T, what string, got api.Int, e, want api.Errno) {
	t.Helper()
	if e != want || !same(got, api.Int{}) {
		t.Errorf("%s = %v, %v, not error %v", what, got, e, want)
	}
}

// twos: the calls of two numbers and one answer.
type two struct {
	name string
	do   func(x, y api.Int) (api.Int, api.Errno)
}

func twos() []two {
	return []two{
		{"Add", whole.Add}, {"Sub", whole.Sub}, {"Mul", whole.Mul}, {"GCD", whole.GCD},
		{"quotient", func(x, y api.Int) (api.Int, api.Errno) { q, _, e := whole.QuoRem(x, y); return q, e }},
		{"rest", func(x, y api.Int) (api.Int, api.Errno) { _, r, e := whole.QuoRem(x, y); return r, e }},
	}
}

// ones: the calls of one number and a number as answer.
type one struct {
	name string
	do   func(x api.Int) (api.Int, api.Errno)
}

func ones() []one {
	l := []one{{"Root", func(x api.Int) (api.Int, api.Errno) { r, _, e := whole.Root(x); return r, e }}}
	for _, n := range []int{-1 << 63, -64, -32, -1, 0, 1, 32, 64} {
		l = append(l, one{"Shift", func(x api.Int) (api.Int, api.Errno) { return whole.Shift(x, n) }})
	}
	return l
}
