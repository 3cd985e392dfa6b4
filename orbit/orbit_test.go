package orbit_test

import (
	"math/big"
	"math/rand"
	"testing"

	"polestar/api"
)

// The promises in the library's fractions.

// column is what comes of whole numbers, a height and a steepness, n times: what m is times den, trip by trip; den has then come n times.
func column(m rats, r [2]*big.Int, n int) (y, u, den *big.Int) {
	common := commonDen(m...)
	a, b, c, d := scaledInt(m[0], common), scaledInt(m[1], common), scaledInt(m[2], common), scaledInt(m[3], common)
	y, u = r[0], r[1]
	sum := func(a, b *big.Int) *big.Int {
		first := new(big.Int).Mul(a, y)
		return first.Add(first, new(big.Int).Mul(b, u))
	}
	for range n {
		y, u = sum(a, b), sum(c, d)
	}
	return y, u, new(big.Int).Exp(common, big.NewInt(int64(n)), nil)
}

// commonDen: a number into which all denominators go.
func commonDen(l ...*big.Rat) *big.Int {
	all := big.NewInt(1)
	for _, x := range l {
		g := new(big.Int).GCD(nil, nil, all, x.Denom())
		all = new(big.Int).Mul(all, g.Div(x.Denom(), g))
	}
	return all
}

// scaledInt: x times a number into which its denominator goes.
func scaledInt(x *big.Rat, common *big.Int) *big.Int {
	return new(big.Int).Mul(x.Num(), new(big.Int).Div(common, x.Denom()))
}

func wantAfter(m, r rats, n int) rats {
	common := commonDen(r...)
	y, u, den := column(m, [2]*big.Int{scaledInt(r[0], common), scaledInt(r[1], common)}, n)
	den.Mul(den, common)
	return rats{new(big.Rat).SetFrac(y, den), new(big.Rat).SetFrac(u, den)}
}

func wantPower(m rats, n int) rats {
	left, right := wantAfter(m, list("1 0"), n), wantAfter(m, list("0 1"), n)
	return rats{left[0], right[0], left[1], right[1]}
}

func wantForm(m, r rats) *big.Rat {
	sum := plus(times(m[2], times(r[0], r[0])), times(less(m[3], m[0]), times(r[0], r[1])))
	return less(sum, times(m[1], times(r[1], r[1])))
}

func wantKind(m rats) api.Stability {
	c := size(trace(m)).Cmp(rat(2))
	one := m[0].Cmp(m[3]) == 0 && size(m[0]).Cmp(rat(1)) == 0 && m[1].Sign() == 0 && m[2].Sign() == 0
	switch {
	case c < 0:
		return api.StStable
	case c > 0:
		return api.StUnstable
	case one:
		return api.StNeutral
	}
	return api.StEdge
}

func wantStays(m, r rats) bool {
	out := through(m, r)
	switch wantKind(m) {
	case api.StEdge:
		return wantForm(m, r).Sign() == 0
	case api.StUnstable:
		return wantForm(m, r).Sign() == 0 && size(out[0]).Cmp(size(r[0])) <= 0 && size(out[1]).Cmp(size(r[1])) <= 0
	}
	return true
}

// wantBound: of a ray that stays.
func wantBound(m, r rats) *big.Rat {
	if wantKind(m) != api.StStable {
		return times(r[0], r[0])
	}
	t := trace(m)
	return over(times(rat(-4), times(m[1], wantForm(m, r))), less(rat(4), times(t, t)))
}

// looksAll: Form, Stays, Bound of a matrix and a ray against the library's fractions, and a few trips.
func looksAll(t *testing.T, m, r rats) {
	t.Helper()
	at, in := made(m), madeRay(r)
	got, e := form(at, in)
	fits(t, "Form of "+toldAll(at, in), got, e, wantForm(m, r))
	stays := wantStays(m, r)
	isStays(t, at, in, stays)
	got, e = bound(at, in)
	if stays {
		fits(t, "Bound of "+toldAll(at, in), got, e, wantBound(m, r))
	} else {
		refused(t, "Bound of "+toldAll(at, in), got, e, api.ErrLight)
	}
	looksTrips(t, m, r, 0, 1, 2, 3)
}

// looksTrips: so many trips against the library's fractions.
func looksTrips(t *testing.T, m, r rats, counts ...int) {
	t.Helper()
	at, in := made(m), madeRay(r)
	for _, n := range counts {
		got, e := trips(at, n)
		fits(t, "Power of "+told(apart(at)...), got, e, wantPower(m, n)...)
		got, e = after(at, in, n)
		fits(t, "After of "+toldAll(at, in), got, e, wantAfter(m, r, n)...)
	}
}

// someTrace: on all sides of 2 and -2, on these, of rays that come again.
func someTrace(r *rand.Rand) *big.Rat {
	switch r.Intn(4) {
	case 0:
		return rat(r.Int63n(9) - 4)
	case 1:
		return big.NewRat(r.Int63n(33)-16, 1+r.Int63n(7))
	case 2:
		return rat(4*r.Int63n(2) - 2)
	}
	return some(r, 1+r.Intn(40))
}

// keeps: a matrix that keeps two lines, on which rays become x and 1 / x times as great, and a ray on each of them.
func keeps(r *rand.Rand, x *big.Rat, bits int) (m, up, down rats) {
	o := someMatrix(r, bits)
	return seen(rats{x, rat(0), rat(0), inverse(x)}, o), through(undone(o), list("1 0")), through(undone(o), list("0 1"))
}

func scaled(r rats, x *big.Rat) rats { return rats{times(r[0], x), times(r[1], x)} }

// P13.1 to P13.4: matrices of all traces, rays of all kinds.
func TestAgainstLibrary(t *testing.T) {
	r := rand.New(rand.NewSource(130))
	count := map[api.Stability]int{}
	for i := range 900 {
		m := someMatrix(r, 1+i%50)
		if i%2 == 0 {
			m = ofTrace(r, someTrace(r), 1+i%40)
		}
		count[wantKind(m)]++
		looksAll(t, m, someRay(r, 1+i%60))
		looksAll(t, m, list("0 0"))
		looksAll(t, m, list("1 0"))
		looksAll(t, m, list("0 1"))
	}
	for _, text := range []string{"1 0 0 1", "-1 0 0 -1"} {
		looksAll(t, list(text), someRay(r, 30))
		looksAll(t, list(text), list("0 0"))
	}
	for _, kind := range []api.Stability{api.StStable, api.StEdge, api.StUnstable} {
		if count[kind] < 50 {
			t.Errorf("Kind %d came %d times alone", kind, count[kind])
		}
	}
}

// P13.1: more trips, by each number of them.
func TestTrips(t *testing.T) {
	r := rand.New(rand.NewSource(131))
	for i := range 40 {
		m, in := ofTrace(r, someTrace(r), 1+i%9), someRay(r, 9)
		for n := range 40 {
			looksTrips(t, m, in, n)
		}
	}
	for _, text := range kinds() {
		looksTrips(t, list(text), someRay(r, 12), 63, 64, 65, 100, 127, 128, 129, 500)
	}
}

// P13.1: MaxTrips and one less, where the answers fit.
func TestMaxTrips(t *testing.T) {
	r := rand.New(rand.NewSource(132))
	for _, text := range append(kinds(), "1 1/3 0 1", "3 4 -1 -1", "0 1 -1 1", "0 1 -1 -1", "-5 -9 4 7", "1/3 5 -1 -12") {
		looksTrips(t, list(text), someRay(r, 12), api.MaxTrips-1, api.MaxTrips)
	}
}

// P13.1: of none: one, and the ray itself; of one: the matrix, and what it makes of the ray; whatever they are.
func TestFewTrips(t *testing.T) {
	r := rand.New(rand.NewSource(133))
	for _, m := range []rats{{most(), rat(0), rat(0), inverse(most())}, someMatrix(r, 9000), {rat(0), most(), minus(inverse(most())), rat(0)}, list("1 0 0 1")} {
		for _, in := range []rats{{most(), minus(most())}, {inverse(most()), rat(0)}, someRay(r, 9000)} {
			got, e := trips(made(m), 0)
			is(t, "Power of none", got, e, list("1 0 0 1")...)
			got, e = after(made(m), madeRay(in), 0)
			is(t, "After none", got, e, in...)
			got, e = trips(made(m), 1)
			is(t, "Power of one", got, e, m...)
			got, e = after(made(m), madeRay(in), 1)
			fits(t, "After one", got, e, through(m, in)...)
		}
	}
}

// P13.3, P13.4, on the edge: on the line that is kept, and a hair beside it; the trace 2 and -2.
func TestEdges(t *testing.T) {
	r := rand.New(rand.NewSource(134))
	for i := range 120 {
		o := someMatrix(r, 1+i%30)
		m := seen(rats{rat(1), other(r, 9), rat(0), rat(1)}, o)
		if i%2 == 0 {
			m = negated(m)
		}
		kept := through(undone(o), rats{other(r, 30), rat(0)})
		hair := through(undone(o), rats{rat(0), inverse(power(uint(i*20), 0))})
		beside := rats{plus(kept[0], hair[0]), plus(kept[1], hair[1])}
		if wantKind(m) != api.StEdge || !wantStays(m, kept) || wantStays(m, beside) {
			t.Fatal("no edge")
		}
		looksAll(t, m, kept)
		looksAll(t, m, beside)
		looksAll(t, m, someRay(r, 20))
		looksAll(t, m, list("0 0"))
	}
}

// P13.3, P13.4, unstable: on each of the two lines that are kept, and a hair beside each; of both signs.
func TestLines(t *testing.T) {
	r := rand.New(rand.NewSource(135))
	for i := range 120 {
		x := plus(rat(1), size(other(r, 1+i%40)))
		if i%2 == 0 {
			x.Neg(x)
		}
		if i%3 == 0 {
			x.Inv(x)
		}
		m, up, down := keeps(r, x, 1+i%25)
		if size(x).Cmp(rat(1)) < 0 {
			up, down = down, up
		}
		factor := other(r, 30)
		up, down = scaled(up, factor), scaled(down, factor)
		if wantKind(m) != api.StUnstable || !wantStays(m, down) || wantStays(m, up) {
			t.Fatal("no such lines")
		}
		hair := inverse(power(uint(i*20), 0))
		looksAll(t, m, up)
		looksAll(t, m, down)
		looksAll(t, m, list("0 0"))
		for _, beside := range []rats{{plus(down[0], times(up[0], hair)), plus(down[1], times(up[1], hair))}, {plus(up[0], times(down[0], hair)), plus(up[1], times(down[1], hair))}} {
			if wantStays(m, beside) {
				t.Fatal("beside the line, and it stays")
			}
			looksAll(t, m, beside)
		}
	}
}

// P13.3: unstable, the form not nought, and behind one trip nearer in both: it does not stay all the same. Or the form nought, and one of both greater: nor does it.
func TestNearerAtFirst(t *testing.T) {
	for _, c := range [][2]string{{"2 0 0 1/2", "1/100 1"}, {"2 3 1 2", "-7 4"}, {"-2 3 1 -2", "7 4"}, {"3 0 0 1/3", "1 0"}, {"1/3 0 0 3", "0 1/9"}} {
		if m, in := list(c[0]), list(c[1]); wantStays(m, in) {
			t.Fatal(c)
		}
		looksAll(t, list(c[0]), list(c[1]))
		isStays(t, matrix(c[0]), theRay(c[1]), false)
	}
}

// P13.4: bounds that are known.
func TestBounds(t *testing.T) {
	for _, c := range [][3]string{
		{"0 1 -1 0", "0 0", "0"}, {"0 1 -1 0", "1 -2", "5"}, {"0 2 -1/2 0", "0 3", "36"}, {"0 -2 1/2 0", "0 3", "36"}, {"0 1 -1 1", "1 0", "4/3"},
		{"0 1 -1 -1", "1 0", "4/3"}, {"1/3 1 -8/9 1/3", "3 4", "27"}, {"1 0 0 1", "-7/2 5", "49/4"}, {"-1 0 0 -1", "0 5", "0"}, {"1 2 0 1", "-3 0", "9"},
		{"1 0 5 1", "0 3", "0"}, {"2 0 0 1/2", "0 9", "0"}, {"1/2 0 0 2", "5/3 0", "25/9"}, {"2 3 1 2", "0 0", "0"}, {"1 2 0 1", "0 0", "0"},
	} {
		got, e := bound(matrix(c[0]), theRay(c[1]))
		is(t, "Bound of "+c[0]+"; "+c[1], got, e, parse(c[2]))
	}
}
