package cavity_test

import (
	"math/big"
	"slices"
	"testing"

	"polestar/api"
	"polestar/bench"
)

// P12.1: MaxElements are allowed, one more is not, whatever they are.
func TestElements(t *testing.T) {
	l := slices.Repeat(row("s 1/2, l 0"), api.MaxElements/2)
	l[5] = lens(rat(3))
	bothWays(func(what string, ring bool) {
		got, e := trip(l, ring)
		is(t, what+"MaxElements", got, e, wantTrip(l, ring)...)
		got, e = trip(append(l, flip()), ring)
		refused(t, what+"one more", got, e, api.ErrLimit)
		got, e = trip(append(l, api.Element{}), ring)
		refused(t, what+"one more that may not be", got, e, api.ErrLimit)
		got, e = trip(make([]api.Element, api.MaxElements), ring)
		refused(t, what+"MaxElements that may not be", got, e, api.ErrArg)
		got, e = trip(make([]api.Element, 1<<20), ring)
		refused(t, what+"a million", got, e, api.ErrLimit)
	})
}

// Many elements that all do something, with fractions that grow.
func TestElementsThatGrow(t *testing.T) {
	l := slices.Repeat(row("s 2/3, l 1/5, f, u 1/2 3"), api.MaxElements/16)
	bothWays(func(what string, ring bool) {
		got, e := trip(l, ring)
		fits(t, what+"elements that grow", got, e, wantTrip(l, ring))
	})
}

// least: the least whole number beyond the limit.
func least() *big.Rat { return power(32*api.MaxLimbs, 0) }

// half: half of a number.
func half(x *big.Rat) *big.Rat { return over(x, rat(2)) }

// onTheBorder: what goes into a call, where one number of the answer is at the limit, and one is beyond it.
type onTheBorder struct {
	places       []int // of those that are beyond it
	fits, beyond rats
}

// look: is it so, and is just the second one refused?
func (c onTheBorder) look(t *testing.T, what string, do func(l rats) ([]api.Frac, api.Errno), want func(l rats) rats) {
	t.Helper()
	if slices.ContainsFunc(want(c.fits), tooGreat) {
		t.Fatalf("%s: beyond the limit", what)
	}
	for i, x := range want(c.beyond) {
		if tooGreat(x) != slices.Contains(c.places, i) {
			t.Fatalf("%s: number %d is beyond the limit or not", what, i)
		}
	}
	got, e := do(c.fits)
	is(t, what, got, e, want(c.fits)...)
	got, e = do(c.beyond)
	refused(t, what, got, e, api.ErrLimit)
}

// byTrip: a trip through what is built of fractions.
func byTrip(of func(l rats) []api.Element, ring bool) (do func(l rats) ([]api.Frac, api.Errno), want func(l rats) rats) {
	return func(l rats) ([]api.Frac, api.Errno) { return trip(of(l), ring) }, func(l rats) rats { return wantTrip(of(l), ring) }
}

// R2, going round: each number alone at the limit and beyond it.
func TestLimitOfRounds(t *testing.T) {
	spaceFirst := func(l rats) []api.Element { return []api.Element{space(l[0]), lens(l[1])} }
	lensFirst := func(l rats) []api.Element { return []api.Element{lens(l[1]), space(l[0])} }
	spaces := func(l rats) []api.Element { return []api.Element{space(l[0]), flip(), space(l[1])} }
	lenses := func(l rats) []api.Element { return []api.Element{lens(l[0]), lens(l[1])} }
	p := power(16*api.MaxLimbs, 0)
	product := onTheBorder{fits: rats{less(p, rat(1)), minus(p)}, beyond: rats{p, minus(p)}}
	sum := onTheBorder{fits: rats{less(most(), rat(1)), rat(1)}, beyond: rats{most(), rat(1)}}
	parts := onTheBorder{fits: rats{inverse(p), inverse(less(p, rat(1)))}, beyond: rats{inverse(p), inverse(plus(p, rat(1)))}}
	for _, c := range []struct {
		of    func(l rats) []api.Element
		place int
		edge  onTheBorder
	}{
		{lensFirst, 0, product}, {spaces, 1, sum}, {lenses, 2, sum}, {spaceFirst, 3, product},
		{lensFirst, 0, parts}, {spaces, 1, parts}, {lenses, 2, parts}, {spaceFirst, 3, parts},
	} {
		do, want := byTrip(c.of, true)
		c.edge.places = []int{c.place}
		c.edge.look(t, "Trip round, the place "+string(rune('A'+c.place)), do, want)
	}
}

// R2, forth and back, where A and D are the same: B alone, C alone, A and D alone at the limit and beyond it.
func TestLimitForthAndBack(t *testing.T) {
	p, two := power(16*api.MaxLimbs, 0), rat(2)
	whole := onTheBorder{fits: rats{half(less(p, rat(1))), plus(p, rat(1))}, beyond: rats{half(p), p}}
	part := onTheBorder{fits: rats{inverse(times(two, less(p, rat(1)))), inverse(plus(p, rat(1)))}, beyond: rats{inverse(times(two, p)), inverse(p)}}
	for _, c := range []onTheBorder{whole, part} {
		c.places = []int{1}
		forth, want := byTrip(func(l rats) []api.Element { return []api.Element{slab(l[0], inverse(l[1]))} }, false)
		c.look(t, "Trip forth and back of a slab", forth, want)
		c.places = []int{2}
		forth, want = byTrip(func(l rats) []api.Element { return []api.Element{surface(l[0], l[1])} }, false)
		c.look(t, "Trip forth and back of a surface", forth, want)
	}
	// A space of 3/5 and the lens that makes A the fraction n / d: B is 3 (n + d) / 5 d, C is 5 (n - d) / 3 d.
	slanted := func(l rats) []api.Element {
		n, d := l[0], l[1]
		return []api.Element{space(big.NewRat(3, 5)), lens(over(times(rat(5), less(d, n)), times(rat(6), d)))}
	}
	forth, want := byTrip(slanted, false)
	n := plus(least(), rat(1))
	d := first(power(32*api.MaxLimbs-1, -1), -1, func(d *big.Rat) bool {
		return over(plus(n, d), rat(5)).IsInt() && over(less(n, d), rat(3)).IsInt() && over(n, d).Denom().Cmp(d.Num()) == 0
	})
	onTheBorder{[]int{0, 3}, rats{less(n, rat(30)), d}, rats{n, d}}.look(t, "Trip forth and back, A and D", forth, want)
}

// first: of x, x + step, and so on the first one that is as it should be.
func first(x *big.Rat, step int64, is func(x *big.Rat) bool) *big.Rat {
	for !is(x) {
		x = plus(x, rat(step))
	}
	return x
}

// P12.3, R2: each number of both calls alone at the limit and beyond it.
func TestLimitOfMirrors(t *testing.T) {
	makeTwo := func(l rats) ([]api.Frac, api.Errno) { return two(of(l[0]), of(l[1]), of(l[2])) }
	wantOfTwo := func(l rats) rats { return wantTwo(l[0], l[1], l[2]) }
	p := power(32*api.MaxLimbs-1, 0)
	// Where 2 p length is 1, D is 1 - U, U being 2 q length: of these numbers it is greater than B, C, and what it is made of.
	u := first(plus(least(), rat(1)), 1, func(x *big.Rat) bool { return over(less(x, rat(12)), rat(30)).IsInt() })
	d := func(u *big.Rat) rats { return rats{big.NewRat(5, 6), times(u, big.NewRat(5, 6)), big.NewRat(3, 5)} }
	halfOf := func(d int64) *big.Rat { return half(inverse(power(16*api.MaxLimbs, d))) }
	for _, c := range []onTheBorder{
		{[]int{0}, rats{less(p, rat(1)), big.NewRat(1, 2), rat(1)}, rats{p, big.NewRat(1, 2), rat(1)}},
		{[]int{1}, rats{rat(0), rat(0), less(p, rat(1))}, rats{rat(0), rat(0), p}},
		{[]int{2}, rats{less(p, rat(2)), rat(1), rat(0)}, rats{less(p, rat(1)), rat(1), rat(0)}},
		{[]int{2}, rats{halfOf(-1), halfOf(1), rat(0)}, rats{halfOf(0), halfOf(1), rat(0)}},
		{[]int{3}, d(less(u, rat(30))), d(u)},
	} {
		c.look(t, "Two", makeTwo, wantOfTwo)
	}
	makeFactors := func(l rats) ([]api.Frac, api.Errno) { return factors(of(l[0]), of(l[1]), of(l[2])) }
	wantOfFactors := func(l rats) rats { return wantFactors(l[0], l[1], l[2]) }
	for _, c := range []onTheBorder{
		{[]int{0}, rats{less(rat(1), most()), rat(1), rat(1)}, rats{minus(most()), rat(1), rat(1)}},
		{[]int{1}, rats{rat(1), p, rat(2)}, rats{rat(1), minus(p), rat(2)}}, // 1 - 2^65536 is as great as may be
		{[]int{0, 1}, rats{p, p, rat(2)}, rats{minus(p), minus(p), rat(2)}},
		{[]int{0}, rats{inverse(p), rat(0), rat(1)}, rats{inverse(p), rat(0), big.NewRat(1, 3)}},
		{[]int{1}, rats{rat(0), inverse(p), rat(1)}, rats{rat(0), inverse(p), big.NewRat(1, 3)}},
	} {
		c.look(t, "Factors", makeFactors, wantOfFactors)
	}
}

// R7: what stands on the way is far beyond the limit, the answer is not.
func TestNoLimitOnTheWay(t *testing.T) {
	great, hair := most(), inverse(most())
	for _, c := range []struct {
		in   rats
		want string
	}{
		{rats{great, less(rat(1), great), rat(0)}, "1 0 -2 1"},
		{rats{great, great, hair}, "-1 0 0 -1"},
		{rats{minus(great), great, rat(0)}, "1 0 0 1"},
	} {
		got, e := two(of(c.in[0]), of(c.in[1]), of(c.in[2]))
		is(t, "Two", got, e, list(c.want)...)
	}
	got, e := factors(of(great), of(minus(great)), of(hair))
	is(t, "Factors", got, e, rat(0), rat(2))
	undone := []api.Element{lens(great), surface(great, great), slab(rat(0), hair), surface(minus(great), great), lens(minus(great))}
	bothWays(func(what string, ring bool) {
		got, e := trip(slices.Concat(undone, row("f")), ring)
		is(t, what+"what is undone", got, e, wantTrip(row("f"), ring)...)
	})
}

// R7: forth and back what goes through the bench once may be beyond the limit: what throws all rays A times as high throws them back as they were.
func TestForthWithoutLimit(t *testing.T) {
	p := power(13*api.MaxLimbs, 1)
	parts, e := bench.Parts(made(rats{p, rat(0), rat(0), inverse(p)}))
	if e != api.OK {
		t.Fatal(e)
	}
	wide := slices.Repeat(parts, 5)
	got, e := trip(wide, true)
	refused(t, "Trip round of it", got, e, api.ErrLimit)
	got, e = trip(wide, false)
	is(t, "Trip forth and back of it", got, e, list("1 0 0 1")...)
	got, e = trip(append(wide, lens(inverse(p))), false)
	refused(t, "Trip forth and back of it and a lens", got, e, api.ErrLimit)
	tiny := slices.Concat(wide, row("l 1, s 1, l 1"), wide) // a quarter of a turn between: height and steepness change places
	bothWays(func(what string, ring bool) {
		got, e = trip(tiny, ring)
		is(t, what+"two of them, a quarter of a turn between", got, e, wantTrip(row("l 1, s 1, l 1"), ring)...)
	})
}

// R2, R7: an answer that is no number is never too great.
func TestKindHasNoLimit(t *testing.T) {
	for _, x := range (rats{most(), minus(most()), inverse(most())}) {
		for _, m := range []rats{{x, rat(0), rat(0), inverse(x)}, {x, rat(1), rat(-1), rat(0)}, {rat(1), x, rat(0), rat(1)}, {rat(0), x, minus(inverse(x)), rat(0)}} {
			isKind(t, made(m), wantKind(m))
		}
	}
}
