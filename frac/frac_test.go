package frac_test

import (
	"math/big"
	"math/rand"
	"testing"

	"polestar/api"
	"polestar/frac"
	"polestar/whole"
)

// P2.1
func TestMake(t *testing.T) {
	ask := func(num, den *big.Int) {
		t.Helper()
		x, e := frac.Make(ofInt(num), ofInt(den))
		if den.Sign() == 0 {
			refused(t, "Make", x, e, api.ErrZero)
			return
		}
		fits(t, "Make", x, e, over(num, den))
	}
	r := rand.New(rand.NewSource(22))
	for i := range 3000 {
		num, den, g := sized(r, 1+i%200), sized(r, 1+i%150), sized(r, 1+i%170)
		ask(num, den)
		ask(num.Mul(num, g), den.Mul(den, g))
	}
	nought, one := new(big.Int), big.NewInt(1)
	for _, n := range []*big.Int{nought, one, most(), other(), minus(one), minus(most()), power(64, 0), power(32, -1)} {
		for _, m := range []*big.Int{nought, one, big.NewInt(-7), most(), other(), minus(most()), minus(other()), power(64, 0)} {
			ask(n, m)
			ask(m, n)
		}
	}
}

// P2.1: what may not be stands ahead of a denominator that is nought.
func TestMakeWrong(t *testing.T) {
	for _, x := range wrongInts() {
		for _, y := range append(wrongInts(), api.Int{}, whole.Of(1), whole.Of(-6), ofInt(most())) {
			z, e := frac.Make(x, y)
			refused(t, "Make", z, e, api.ErrArg)
			z, e = frac.Make(y, x)
			refused(t, "Make", z, e, api.ErrArg)
		}
	}
}

// P2.1
func TestOf(t *testing.T) {
	l := []int64{0, 1, -1, 2, -2, 6, 15, -35, 1<<31 - 1, 1 << 32, -1 << 32, 1<<62 + 1, 1<<63 - 1, -1<<63 + 1, -1 << 63}
	for _, num := range l {
		for _, den := range l {
			x, e := frac.Of(num, den)
			if den == 0 {
				refused(t, "Of", x, e, api.ErrZero)
				continue
			}
			fits(t, "Of", x, e, over(big.NewInt(num), big.NewInt(den)))
		}
	}
}

// P2.1
func TestCheck(t *testing.T) {
	for i, x := range wrong() {
		if e := frac.Check(x); e != api.ErrArg {
			t.Errorf("fraction %d that may not be: %v", i, e)
		}
	}
	for _, x := range append(edges(), huge()...) {
		if e := frac.Check(x); e != api.OK {
			t.Errorf("Check(%v) = %v", worth(x), e)
		}
	}
	r := rand.New(rand.NewSource(23))
	for range 2000 {
		num, den := sized(r, 70), new(big.Int).Abs(sized(r, 70))
		want := api.ErrArg
		if den.Sign() > 0 && new(big.Int).GCD(nil, nil, new(big.Int).Abs(num), den).Cmp(big.NewInt(1)) == 0 {
			want = api.OK
		}
		if e := frac.Check(api.Frac{Num: ofInt(num), Den: ofInt(den)}); e != want {
			t.Errorf("Check(%v / %v) = %v", num, den, e)
		}
	}
}

// P2.2, P2.3
func TestTwos(t *testing.T) {
	pairs(func(x, y api.Frac) {
		a, b := worth(x), worth(y)
		for _, c := range twos() {
			z, e := c.do(x, y)
			if c.name == "Quo" && b.Sign() == 0 {
				refused(t, "over 0", z, e, api.ErrZero)
				continue
			}
			fits(t, c.name, z, e, c.is(new(big.Rat), a, b))
		}
		if frac.Cmp(x, y) != a.Cmp(b) || frac.Sign(x) != a.Sign() {
			t.Fatalf("%v and %v: Cmp %d, Sign %d", a, b, frac.Cmp(x, y), frac.Sign(x))
		}
	})
}

// P2.2, P2.3: what may not be, on either side, with nought and what is too great on the other one.
func TestTwosWrong(t *testing.T) {
	for _, x := range wrong() {
		for _, y := range []api.Frac{small(0, 1), small(-3, 2), of(over(most(), big.NewInt(1))), {}, x} {
			for _, c := range twos() {
				z, e := c.do(x, y)
				refused(t, c.name, z, e, api.ErrArg)
				z, e = c.do(y, x)
				refused(t, c.name, z, e, api.ErrArg)
			}
			if frac.Cmp(x, y) != 0 || frac.Cmp(y, x) != 0 || frac.Sign(x) != 0 {
				t.Errorf("%v that may not be: Cmp %d, %d, Sign %d", x, frac.Cmp(x, y), frac.Cmp(y, x), frac.Sign(x))
			}
		}
	}
}

// P2.2: answers just within the limit, and one beyond it, in either number; the way there is beyond it in many.
func TestLimits(t *testing.T) {
	one, two, n, p := big.NewInt(1), big.NewInt(2), most(), other()
	less := new(big.Int).Sub(n, one)
	for i, c := range []struct {
		name string
		x, y *big.Rat
		e    api.Errno
	}{
		{"Add", over(less, one), over(one, one), api.OK},
		{"Add", over(n, one), over(one, one), api.ErrLimit},
		{"Add", over(n, two), over(one, two), api.OK},
		{"Add", over(n, big.NewInt(7)), over(n, big.NewInt(7)), api.ErrLimit},
		{"Add", over(one, n), over(less, n), api.OK},
		{"Add", over(one, n), over(one, p), api.ErrLimit},
		{"Add", over(one, n), over(one, two), api.ErrLimit},
		{"Sub", over(minus(less), one), over(one, one), api.OK},
		{"Sub", over(minus(n), one), over(one, one), api.ErrLimit},
		{"Sub", over(n, p), over(n, p), api.OK},
		{"Sub", over(one, p), over(one, n), api.ErrLimit},
		{"Mul", over(p, one), over(two, one), api.ErrLimit},
		{"Mul", over(one, p), over(one, two), api.ErrLimit},
		{"Mul", over(p, n), over(minus(n), p), api.OK},
		{"Mul", over(p, n), over(n, two), api.OK},
		{"Mul", over(n, p), over(n, p), api.ErrLimit},
		{"Quo", over(p, one), over(one, two), api.ErrLimit},
		{"Quo", over(one, p), over(two, one), api.ErrLimit},
		{"Quo", over(minus(p), n), over(p, n), api.OK},
		{"Quo", over(n, p), over(n, one), api.OK},
		{"Quo", over(n, one), over(p, one), api.OK},
		{"Quo", over(n, one), new(big.Rat), api.ErrZero},
	} {
		for _, d := range twos() {
			if d.name != c.name {
				continue
			}
			z, e := d.do(of(c.x), of(c.y))
			if e != c.e {
				t.Fatalf("%d: %s: %v", i, c.name, e)
			}
			if e == api.ErrZero {
				refused(t, c.name, z, e, e)
			} else {
				fits(t, c.name, z, e, d.is(new(big.Rat), c.x, c.y))
			}
		}
	}
}

// P2.3: fractions that differ by next to nothing.
func TestCmpNear(t *testing.T) {
	r := rand.New(rand.NewSource(24))
	for i := range 2000 {
		x, least := worth(some(r, 10+i%500)), over(big.NewInt(1), power(uint(i%900), 0))
		above := new(big.Rat).Add(x, least)
		if a, b, c := frac.Cmp(of(x), of(above)), frac.Cmp(of(above), of(x)), frac.Cmp(of(x), of(x)); a != -1 || b != 1 || c != 0 {
			t.Fatalf("%v and %v: %d, %d, %d", x, above, a, b, c)
		}
	}
	next := over(new(big.Int).Sub(most(), big.NewInt(1)), new(big.Int).Sub(most(), big.NewInt(2)))
	if x := over(most(), new(big.Int).Sub(most(), big.NewInt(1))); frac.Cmp(of(x), of(next)) != -1 || frac.Cmp(of(next), of(x)) != 1 {
		t.Error("Cmp of the greatest ones")
	}
}

// P2.4
func TestRoot(t *testing.T) {
	is := func(x *big.Rat, root *big.Rat) {
		t.Helper()
		r, ok, e := frac.Root(of(x))
		if root == nil {
			if refused(t, "Root", r, e, api.OK); ok {
				t.Fatalf("Root(%v) = %v", x, r)
			}
			return
		}
		if fits(t, "Root", r, e, root); !ok {
			t.Fatalf("Root(%v): false", x)
		}
	}
	r := rand.New(rand.NewSource(25))
	for i := range 1000 {
		x := new(big.Rat).Abs(worth(some(r, 5+i%200)))
		square := new(big.Rat).Mul(x, x)
		is(square, x)
		if x.Sign() > 0 {
			is(new(big.Rat).Mul(square, big.NewRat(2, 1)), nil)
			is(new(big.Rat).Mul(square, big.NewRat(1, 3)), nil)
			is(new(big.Rat).Mul(square, big.NewRat(5, 7)), nil)
		}
	}
	half := power(16*api.MaxLimbs, -1)
	square := new(big.Int).Mul(half, half)
	is(over(square, big.NewInt(1)), over(half, big.NewInt(1)))
	is(over(big.NewInt(1), square), over(big.NewInt(1), half))
	is(over(most(), square), nil)
	for _, c := range []struct{ num, den int64 }{{2, 1}, {3, 4}, {4, 3}, {8, 1}, {1, 2}, {24, 25}, {25, 24}, {1<<62 - 1, 1}} {
		is(big.NewRat(c.num, c.den), nil)
	}
}

// P2.4
func TestRootWrong(t *testing.T) {
	l := append(wrong(), small(-1, 1), small(-9, 4), small(-2, 1), of(over(minus(most()), other())))
	l = append(l, api.Frac{Num: whole.Of(-4), Den: whole.Of(-9)}, api.Frac{Num: whole.Of(4), Den: whole.Of(16)})
	for _, x := range l {
		r, ok, e := frac.Root(x)
		if refused(t, "Root", r, e, api.ErrArg); ok {
			t.Errorf("Root(%v): true", x)
		}
	}
}
