package large_test

import (
	"encoding/binary"
	"math/big"
	"math/rand"
	"slices"
	"strings"
	"testing"

	"polestar/api"
	"polestar/large"
)

// worth: what a number is worth, told by the library.
func worth(x large.Int) *big.Int {
	var bytes []byte
	told := x.Int()
	for _, limb := range slices.Backward(told.Mag) {
		bytes = binary.BigEndian.AppendUint32(bytes, limb)
	}
	n := new(big.Int).SetBytes(bytes)
	if told.Neg {
		n.Neg(n)
	}
	return n
}

// sized: a number of so many limbs, of random ones, or of long runs of noughts and ones, which make guesses wrong.
func sized(r *rand.Rand, limbs int) large.Int {
	l := make([]uint32, limbs)
	kind := r.Intn(4)
	for i := range l {
		switch kind {
		case 0, 1:
			l[i] = r.Uint32()
		case 2:
			l[i] = -uint32(r.Intn(2))
		case 3:
			l[i] = []uint32{0, 1, 1 << 31, 1<<32 - 1, 1<<32 - 2}[r.Intn(5)]
		}
	}
	for len(l) > 0 && l[len(l)-1] == 0 {
		l = l[:len(l)-1]
	}
	return large.From(api.Int{Neg: len(l) > 0 && r.Intn(2) == 0, Mag: l})
}

func same(t *testing.T, what string, got large.Int, want *big.Int) {
	t.Helper()
	if worth(got).Cmp(want) != 0 {
		t.Fatalf("%s = %v, not %v", what, worth(got), want)
	}
	if told := got.Int(); len(told.Mag) > 0 && told.Mag[len(told.Mag)-1] == 0 || told.Neg && len(told.Mag) == 0 {
		t.Fatalf("%s: not in its one form: %v", what, told)
	}
}

// looks: all that is asked of two numbers, against the library's.
func looks(t *testing.T, x, y large.Int) {
	t.Helper()
	a, b := worth(x), worth(y)
	same(t, "Add", x.Add(y), new(big.Int).Add(a, b))
	same(t, "Sub", x.Sub(y), new(big.Int).Sub(a, b))
	same(t, "Mul", x.Mul(y), new(big.Int).Mul(a, b))
	same(t, "Neg", x.Neg(), new(big.Int).Neg(a))
	same(t, "Abs", x.Abs(), new(big.Int).Abs(a))
	same(t, "GCD", x.GCD(y), new(big.Int).GCD(nil, nil, new(big.Int).Abs(a), new(big.Int).Abs(b)))
	if x.Cmp(y) != a.Cmp(b) || x.Sign() != a.Sign() || x.Bits() != a.BitLen() || x.Limbs() != (a.BitLen()+31)/32 {
		t.Fatalf("%v and %v: Cmp %d, Sign %d, Bits %d, Limbs %d", a, b, x.Cmp(y), x.Sign(), x.Bits(), x.Limbs())
	}
	if n, ok := x.Int64(); ok != a.IsInt64() || ok && n != a.Int64() || !ok && n != 0 {
		t.Fatalf("Int64 of %v = %d, %v", a, n, ok)
	}
	if y.Sign() != 0 {
		q, r := x.QuoRem(y)
		wantQ, wantR := new(big.Int).QuoRem(a, b, new(big.Int))
		same(t, "quotient", q, wantQ)
		same(t, "rest", r, wantR)
	}
	if x.Sign() >= 0 {
		same(t, "Root", x.Root(), new(big.Int).Sqrt(a))
	}
	same(t, "x", x, a)
	same(t, "y", y, b)
}

func TestAgainstLibrary(t *testing.T) {
	r := rand.New(rand.NewSource(1))
	for range 6000 {
		looks(t, sized(r, r.Intn(9)), sized(r, r.Intn(9)))
	}
	for range 300 {
		looks(t, sized(r, r.Intn(120)), sized(r, r.Intn(120)))
	}
	for range 4 { // beyond the limit of the layers
		looks(t, sized(r, 4200+r.Intn(3)), sized(r, 2100+r.Intn(3)))
	}
}

// TestNear: multiples of y, and their neighbours, are where a guess of the quotient is wrong.
func TestNear(t *testing.T) {
	r := rand.New(rand.NewSource(2))
	for range 4000 {
		y, q := sized(r, 1+r.Intn(8)), sized(r, 1+r.Intn(8))
		x := q.Mul(y)
		for n := range int64(3) {
			looks(t, x.Add(large.Of(n-1)), y)
			looks(t, x.Add(y).Sub(large.Of(n)), y)
		}
		looks(t, q.Mul(q).Sub(large.Of(1)), q)
	}
}

// ofWords: the number of these words, the highest first.
func ofWords(l ...uint64) large.Int {
	var limbs []uint32
	for _, w := range slices.Backward(l) {
		limbs = append(limbs, uint32(w), uint32(w>>32))
	}
	for len(limbs) > 0 && limbs[len(limbs)-1] == 0 {
		limbs = limbs[:len(limbs)-1]
	}
	return large.From(api.Int{Mag: limbs})
}

// TestPutBack: quotients a word of which is guessed too great by the highest words.
func TestPutBack(t *testing.T) {
	const top, all = 1 << 63, 1<<64 - 1
	looks(t, ofWords(top-1, top, 0, 0), ofWords(top, 0, 1))
	looks(t, ofWords(top-1, all, all, 0), ofWords(top, 0, all))
	looks(t, ofWords(top, 0, 0, 0), ofWords(top, 0, all))
	looks(t, ofWords(top, 0, 0, 0), ofWords(top, all, all))
	looks(t, ofWords(top, all-1, 0), ofWords(top, all))
	looks(t, ofWords(top, all, all, 0), ofWords(top, all, all))
	looks(t, ofWords(3, 0, top), ofWords(1, 0, top))
	looks(t, ofWords(top, 0, 0, 3), ofWords(1<<61, 0, 1))
}

// TestCommon: numbers whose greatest common one is known, neighbours in Fibonacci's row (the most steps there can be), and unlike sizes.
func TestCommon(t *testing.T) {
	r := rand.New(rand.NewSource(3))
	x, y := large.Of(1), large.Of(1)
	for n := range 3000 {
		x, y = y, x.Add(y)
		if g := y.GCD(x); g.Cmp(large.Of(1)) != 0 {
			t.Fatalf("GCD of two neighbours, %d: %v", n, worth(g))
		}
	}
	for range 300 {
		g := sized(r, 1+r.Intn(40))
		looks(t, x.Mul(g), y.Mul(g))
		looks(t, g.Mul(sized(r, 80)), g)
		looks(t, g.Mul(sized(r, 60)), g.Mul(sized(r, 3)))
	}
}

func TestShift(t *testing.T) {
	r := rand.New(rand.NewSource(4))
	for range 3000 {
		x := sized(r, r.Intn(9))
		n := r.Intn(300)
		if r.Intn(3) == 0 {
			n = r.Intn(5) * 64
		}
		a := worth(x)
		same(t, "up", x.Shift(n), new(big.Int).Lsh(a, uint(n)))
		same(t, "down", x.Shift(-n), new(big.Int).Rsh(a, uint(n))) // of the library's too the greatest one not above
		same(t, "x", x, a)
	}
	for _, n := range []int{-1 << 63, -1<<63 + 1, -1 << 40} {
		same(t, "down", large.Of(5).Shift(n), big.NewInt(0))
		same(t, "down", large.Of(-5).Shift(n), big.NewInt(-1))
	}
	same(t, "up", large.Int{}.Shift(1<<63-1), big.NewInt(0))
}

func TestText(t *testing.T) {
	r := rand.New(rand.NewSource(5))
	for i := range 2000 {
		x := sized(r, r.Intn(12))
		if i%100 == 0 {
			x = sized(r, 3000)
		}
		s := x.Text()
		if s != worth(x).String() {
			t.Fatalf("Text of %v = %s", worth(x), s)
		}
		y, ok := large.Parse(s)
		if !ok {
			t.Fatalf("Parse(%s): false", s)
		}
		same(t, "Parse", y, worth(x))
	}
	for n := range 60 { // noughts within, and at the borders of words of digits
		s := "1" + strings.Repeat("0", n)
		for _, s := range []string{s, "-" + s, s + "7", s + "0070"} {
			y, ok := large.Parse(s)
			if want, _ := new(big.Int).SetString(s, 10); !ok || worth(y).Cmp(want) != 0 || y.Text() != s {
				t.Fatalf("Parse(%s) = %v, %v", s, worth(y), ok)
			}
		}
	}
	for _, s := range []string{"", "-", "-0", "00", "01", "-01", "+1", " 1", "1 ", "1-", "--1", "0x1", "1_0", "1.0", "1e3", "a", "1/2", "\u0661", "1\n", "1\x00", "1:", "/1"} {
		if y, ok := large.Parse(s); ok || y.Sign() != 0 {
			t.Errorf("Parse(%q) = %v, %v", s, worth(y), ok)
		}
	}
}

func TestOf(t *testing.T) {
	for _, n := range []int64{0, 1, -1, 1 << 31, 1 << 32, -1 << 32, 1<<63 - 1, -1<<63 + 1, -1 << 63} {
		same(t, "Of", large.Of(n), big.NewInt(n))
	}
}
