package orbit_test

import (
	"math/big"
	"math/rand"
	"slices"
	"testing"

	"polestar/api"
)

// onTheBorder: what goes into a call, where one number of the answer (or those that are named) is at the limit, and then beyond it.
type onTheBorder struct {
	places       []int // of those that are beyond it
	fits, beyond rats
}

// look: is it so, and is just the second one refused?
func (c onTheBorder) look(t *testing.T, what string, do func(l rats) ([]api.Frac, api.Errno), want func(l rats) rats) {
	t.Helper()
	if slices.ContainsFunc(want(c.fits), tooGreat) {
		t.Fatalf("%s: beyond the limit", what)
	}
	for i, x := range want(c.beyond) {
		if tooGreat(x) != slices.Contains(c.places, i) {
			t.Fatalf("%s: number %d is beyond the limit or not", what, i)
		}
	}
	got, e := do(c.fits)
	is(t, what, got, e, want(c.fits)...)
	got, e = do(c.beyond)
	refused(t, what, got, e, api.ErrLimit)
}

// least: the least whole number beyond the limit.
func least() *big.Rat { return power(32*api.MaxLimbs, 0) }

// root: the least whole number whose square is beyond the limit, and d more.
func root(d int64) *big.Rat { return power(16*api.MaxLimbs, d) }

// R2, Power: each number alone at the limit and beyond it, in numerators and in denominators.
func TestLimitOfPower(t *testing.T) {
	hair := func(x *big.Rat) *big.Rat { return over(rat(3), x) }
	for _, c := range []struct {
		what string
		n    int
		of   func(x *big.Rat) rats
		edge onTheBorder
	}{
		// Of two trips whose D is nought, A becomes A A - 1, and B, of 1, is A.
		{"A", 2, func(x *big.Rat) rats { return rats{x, rat(1), rat(-1), rat(0)} }, onTheBorder{[]int{0}, rats{root(0)}, rats{root(1)}}},
		{"D", 2, func(x *big.Rat) rats { return rats{rat(0), rat(1), rat(-1), x} }, onTheBorder{[]int{3}, rats{root(0)}, rats{root(1)}}},
		{"A, in parts", 2, func(x *big.Rat) rats { return rats{inverse(x), rat(1), rat(-1), rat(0)} }, onTheBorder{[]int{0}, rats{root(-1)}, rats{root(0)}}},
		{"D, in parts", 2, func(x *big.Rat) rats { return rats{rat(0), rat(-1), rat(1), inverse(x)} }, onTheBorder{[]int{3}, rats{root(-1)}, rats{root(0)}}},
		{"B", 4, func(x *big.Rat) rats { return rats{rat(1), x, rat(0), rat(1)} }, onTheBorder{[]int{1}, rats{power(32*api.MaxLimbs-2, -1)}, rats{power(32*api.MaxLimbs-2, 0)}}},
		{"C", 4096, func(x *big.Rat) rats { return rats{rat(1), rat(0), x, rat(1)} }, onTheBorder{[]int{2}, rats{power(32*api.MaxLimbs-12, -1)}, rats{power(32*api.MaxLimbs-12, 0)}}},
		{"B of an edge below nought", 3, func(x *big.Rat) rats { return rats{rat(-1), x, rat(0), rat(-1)} }, onTheBorder{[]int{1}, rats{over(most(), rat(3))}, rats{power(32*api.MaxLimbs-1, 0)}}},
		{"A and D", 2, func(x *big.Rat) rats { return rats{x, rat(0), rat(0), inverse(x)} }, onTheBorder{[]int{0, 3}, rats{root(-1)}, rats{root(0)}}},
		{"A and D, of four trips", 4, func(x *big.Rat) rats { return rats{hair(x), rat(0), rat(0), over(x, rat(3))} }, onTheBorder{[]int{0, 3}, rats{power(8*api.MaxLimbs, -1)}, rats{power(8*api.MaxLimbs, 1)}}},
	} {
		for _, x := range []rats{c.edge.fits, c.edge.beyond} {
			if m := c.of(x[0]); less(times(m[0], m[3]), times(m[1], m[2])).Cmp(rat(1)) != 0 {
				t.Fatalf("%s: the determinant is not 1", c.what)
			}
		}
		c.edge.look(t, "Power, "+c.what, func(l rats) ([]api.Frac, api.Errno) { return trips(made(c.of(l[0])), c.n) }, func(l rats) rats { return wantPower(c.of(l[0]), c.n) })
	}
}

// R2, After: the height alone, and the steepness alone, at the limit and beyond it.
func TestLimitOfAfter(t *testing.T) {
	space, lens := list("1 3 0 1"), list("1 0 1/3 1")
	for _, c := range []struct {
		m    rats
		n    int
		edge onTheBorder
	}{
		{space, 1, onTheBorder{[]int{0}, rats{less(most(), rat(9)), rat(3)}, rats{less(most(), rat(8)), rat(3)}}},
		{space, 5, onTheBorder{[]int{0}, rats{less(most(), rat(15)), rat(1)}, rats{less(most(), rat(14)), rat(1)}}},
		{space, 4096, onTheBorder{[]int{0}, rats{rat(-1), minus(power(32*api.MaxLimbs-14, 0))}, rats{rat(0), minus(power(32*api.MaxLimbs-12, 0))}}},
		{lens, 3, onTheBorder{[]int{1}, rats{rat(5), less(most(), rat(5))}, rats{rat(5), less(most(), rat(4))}}},
		{negated(lens), 3, onTheBorder{[]int{1}, rats{rat(-5), less(rat(5), most())}, rats{rat(-5), less(rat(4), most())}}},
		{list("2 0 0 1/2"), 7, onTheBorder{[]int{0}, rats{power(32*api.MaxLimbs-7, -1), rat(0)}, rats{power(32*api.MaxLimbs-7, 0), rat(0)}}},
		{list("2 0 0 1/2"), 7, onTheBorder{[]int{1}, rats{rat(0), inverse(power(32*api.MaxLimbs-8, 0))}, rats{rat(0), inverse(power(32*api.MaxLimbs-7, 0))}}},
	} {
		c.edge.look(t, "After "+told(apart(made(c.m))...), func(l rats) ([]api.Frac, api.Errno) { return after(made(c.m), madeRay(l), c.n) }, func(l rats) rats { return wantAfter(c.m, l, c.n) })
	}
}

// R2, Form and Bound: at the limit and beyond it.
func TestLimitOfNumbers(t *testing.T) {
	for _, text := range []string{"1 0 1 1", "0 1 -1 0", "1 1 0 1", "0 -1 1 0"} {
		m := list(text)
		onTheBorder{[]int{0}, rats{root(-1), root(-1)}, rats{root(0), root(0)}}.look(t, "Form, "+text,
			func(l rats) ([]api.Frac, api.Errno) {
				return form(made(m), madeRay(rats{halved(m, l[0]), halved(m, l[1])}))
			},
			func(l rats) rats { return rats{wantForm(m, rats{halved(m, l[0]), halved(m, l[1])})} })
	}
	for _, c := range []struct {
		m    string
		edge onTheBorder
	}{
		{"1 0 0 1", onTheBorder{[]int{0}, rats{root(-1), most()}, rats{root(0), most()}}},
		{"-1 0 0 -1", onTheBorder{[]int{0}, rats{inverse(root(-1)), most()}, rats{inverse(root(0)), most()}}},
		{"1 5 0 1", onTheBorder{[]int{0}, rats{root(-1), rat(0)}, rats{minus(root(0)), rat(0)}}},
		{"1/2 0 0 2", onTheBorder{[]int{0}, rats{root(-1), rat(0)}, rats{root(0), rat(0)}}},
		{"0 1 -1 0", onTheBorder{[]int{0}, rats{rat(0), root(-1)}, rats{rat(0), root(0)}}},
		{"0 3 -1/3 0", onTheBorder{[]int{0}, rats{rat(0), over(root(-1), rat(3))}, rats{rat(0), over(root(2), rat(3))}}},
	} {
		m := list(c.m)
		c.edge.look(t, "Bound, "+c.m, func(l rats) ([]api.Frac, api.Errno) { return bound(made(m), madeRay(l)) }, func(l rats) rats { return rats{wantBound(m, l)} })
	}
}

// halved: where the form has two squares, a number whose square is half as great, or less.
func halved(m rats, x *big.Rat) *big.Rat {
	if m[1].Sign() != 0 && m[2].Sign() != 0 {
		return over(x, rat(3))
	}
	return x
}

// R7: what stands between is beyond the limit, and the answer is not.
func TestBetweenBeyond(t *testing.T) {
	p := power(40000, 1)
	wide := rats{p, rat(0), rat(0), inverse(p)}
	got, e := trips(made(wide), 2)
	refused(t, "Power of what makes rays far higher", got, e, api.ErrLimit)
	in := rats{inverse(p), inverse(p)}
	got, e = after(made(wide), madeRay(in), 2)
	refused(t, "After of it, too steep", got, e, api.ErrLimit)
	in[1] = p
	got, e = after(made(wide), madeRay(in), 2)
	is(t, "After of it", got, e, p, inverse(p))
	got, e = after(made(undone(wide)), madeRay(rats{p, inverse(p)}), 2)
	is(t, "After of it, the other way", got, e, inverse(p), p)
	for _, n := range []int{0, 1, 2, 5, api.MaxTrips} {
		got, e = after(made(wide), theRay("0 0"), n)
		is(t, "After of the ray of nought", got, e, list("0 0")...)
	}
	// 4 B F / (4 - t t) is Y Y + B B U U, where the form has both divided by B.
	b, c := power(40000, 1), power(20000, 3)
	m := rats{rat(0), b, minus(inverse(b)), rat(0)}
	r := rats{power(9000, 1), inverse(times(b, c))}
	got, e = form(made(m), madeRay(r))
	refused(t, "Form", got, e, api.ErrLimit)
	got, e = bound(made(m), madeRay(r))
	is(t, "Bound", got, e, plus(times(r[0], r[0]), inverse(times(c, c))))
	isStays(t, made(m), madeRay(r), true)
	leavesNever(t, made(m), madeRay(r), of(plus(r[0], rat(1))))
}

// R7: of both a ray and what becomes of it the fractions are as long as may be; what leads from one to the other is four times as long.
func TestBetweenFarBeyond(t *testing.T) {
	x := over(power(1000, 7), power(999, 9))
	to := func(n int64) *big.Rat {
		e := big.NewInt(n)
		return new(big.Rat).SetFrac(new(big.Int).Exp(x.Num(), e, nil), new(big.Int).Exp(x.Denom(), e, nil))
	}
	far := to(65)
	wide := rats{x, rat(0), rat(0), inverse(x)}
	for _, c := range [][2]rats{
		{{inverse(far), far}, {far, inverse(far)}}, {{inverse(far), rat(0)}, {far, rat(0)}}, {{rat(0), far}, {rat(0), inverse(far)}}, {{times(rat(-2), inverse(far)), far}, {times(rat(-2), far), inverse(far)}},
	} {
		got, e := after(made(wide), madeRay(c[0]), 130)
		is(t, "After of long fractions", got, e, c[1]...)
		got, e = after(made(wide), madeRay(c[0]), 132)
		refused(t, "After, two trips more", got, e, api.ErrLimit)
		got, e = after(made(undone(wide)), madeRay(c[1]), 130)
		is(t, "After of long fractions, the other way", got, e, c[0]...)
	}
	got, e := trips(made(negated(wide)), 65)
	is(t, "Power of long fractions", got, e, minus(far), rat(0), rat(0), minus(inverse(far)))
	got, e = trips(made(wide), 66)
	refused(t, "Power, one trip more", got, e, api.ErrLimit)
}

// R7: great matrices that become one again: squares on the way are far beyond the limit.
func TestGreatOnesThatComeAgain(t *testing.T) {
	r := rand.New(rand.NewSource(150))
	for _, c := range []struct {
		m string
		n int
	}{{"0 1 -1 -1", 3}, {"0 1 -1 0", 4}, {"0 1 -1 1", 6}, {"-1 0 0 -1", 2}} {
		m, in := seen(list(c.m), someMatrix(r, 5000)), someRay(r, 5000)
		for _, n := range []int{c.n, 2 * c.n, 12, 4092} {
			got, e := trips(made(m), n)
			is(t, "Power of "+c.m, got, e, list("1 0 0 1")...)
			got, e = after(made(m), madeRay(in), n)
			is(t, "After of "+c.m, got, e, in...)
		}
		got, e := trips(made(m), 4093)
		is(t, "Power of "+c.m, got, e, m...)
		got, e = after(made(m), madeRay(in), 4095)
		fits(t, "After of "+c.m, got, e, wantAfter(m, in, 3)...)
	}
}

// R1, R2: numbers of millions of bits are refused, and don't take long.
func TestFarBeyond(t *testing.T) {
	r := rand.New(rand.NewSource(151))
	p := power(60000, 1)
	for _, m := range []rats{
		{p, rat(0), rat(0), inverse(p)}, {p, rat(-1), rat(1), rat(0)}, {inverse(p), rat(1), rat(-1), rat(0)}, {most(), rat(0), rat(0), inverse(most())}, {rat(0), rat(1), rat(-1), minus(most())},
		ofTrace(r, some(r, 20000), 20000), someMatrix(r, 15000),
	} {
		for _, n := range []int{5, api.MaxTrips} {
			got, e := trips(made(m), n)
			refused(t, "Power", got, e, api.ErrLimit)
			for _, in := range []rats{list("1 1"), {inverse(most()), most()}, someRay(r, 20000)} {
				got, e = after(made(m), madeRay(in), n)
				refused(t, "After", got, e, api.ErrLimit)
			}
		}
		got, e := form(made(m), madeRay(rats{most(), power(32*api.MaxLimbs, -3)}))
		refused(t, "Form", got, e, api.ErrLimit)
	}
}

// R2: trip by trip to the limit and beyond it; and on a way back that grows shorter at first.
func TestFirstBeyond(t *testing.T) {
	r := rand.New(rand.NewSource(152))
	for i := range 3 {
		bits := 3000 + 600*i
		m, up, down := keeps(r, plus(rat(1), size(other(r, bits))), 200)
		hair := inverse(power(uint(5*bits), 0))
		for _, in := range []rats{up, down, {plus(down[0], times(up[0], hair)), plus(down[1], times(up[1], hair))}} {
			for n := range 14 {
				looksTrips(t, m, in, n)
			}
		}
		m = ofTrace(r, over(some(r, bits), rat(3)), bits)
		back := wantAfter(undone(m), someRay(r, 100), 3)
		if slices.ContainsFunc(back, tooGreat) {
			t.Fatal("no such ray")
		}
		for n := range 9 {
			looksTrips(t, m, back, n)
		}
	}
}
