package cavity_test

import (
	"math/big"
	"math/rand"
	"slices"
	"testing"

	"polestar/api"
	"polestar/bench"
	"polestar/cavity"
	"polestar/frac"
	"polestar/ray"
)

// sure: an answer that must not be refused.
func sure[T any](x T, e api.Errno) T {
	if e != api.OK {
		panic(e)
	}
	return x
}

// short: benches whose matrices are not refused.
func short() [][]api.Element {
	return slices.DeleteFunc(benches(), func(l []api.Element) bool { return len(l) > 40 })
}

// holds: is a fraction the wanted one?
func holds(t *testing.T, what string, x api.Frac, want *big.Rat) {
	t.Helper()
	is(t, what, []api.Frac{x}, api.OK, want)
}

// fourLess: 4 x y - 2.
func fourLess(x, y api.Frac) *big.Rat { return less(times(rat(4), times(worth(x), worth(y))), rat(2)) }

// P12.4: the trace of Two is 4 g h - 2: stable just if g h is above 0 and below 1.
func TestTracesOfMirrors(t *testing.T) {
	r := rand.New(rand.NewSource(125))
	stable, border := 0, 0
	ask := func(p, q, length *big.Rat) {
		t.Helper()
		m := sure(cavity.Two(of(p), of(q), of(length)))
		g, h, e := cavity.Factors(of(p), of(q), of(length))
		if e != api.OK {
			t.Fatal(e)
		}
		holds(t, "the trace of Two", sure(ray.Trace(m)), fourLess(g, h))
		product := sure(frac.Mul(g, h))
		within := frac.Sign(product) > 0 && frac.Cmp(product, num("1")) < 0
		kind := sure(cavity.Kind(m))
		if within != (kind == api.StStable) {
			t.Fatalf("Kind of Two of %s = %d; g h = %s", told(of(p), of(q), of(length)), kind, told(product))
		}
		if within {
			stable++
		}
		if frac.Sign(product) == 0 || frac.Cmp(product, num("1")) == 0 {
			border++
			if kind != api.StEdge && kind != api.StNeutral {
				t.Fatalf("Kind of Two of %s = %d", told(of(p), of(q), of(length)), kind)
			}
		}
	}
	for range 600 {
		p, q, length := some(r, 3), some(r, 3), size(some(r, 3))
		ask(p, q, length)
		if length.Sign() > 0 {
			ask(inverse(length), q, length)
			ask(p, inverse(length), length)
		}
		ask(some(r, 40), some(r, 40), size(some(r, 40)))
	}
	if stable < 100 || border < 100 {
		t.Fatalf("%d stable, %d on the border", stable, border)
	}
}

// P12.4: forth and back the trace is 4 A D - 2, A and D being those of the bench; such a trip is its own Mirror.
func TestTracesForthAndBack(t *testing.T) {
	for _, l := range short() {
		once, trip := sure(bench.Matrix(l)), sure(cavity.Trip(l, false))
		holds(t, "the trace forth and back of "+toldBench(l), sure(ray.Trace(trip)), fourLess(once.A, once.D))
		is(t, "Mirror of the trip", apart(sure(ray.Mirror(trip))), ray.Check(trip), worths(trip)...)
		is(t, "Trip round", apart(sure(cavity.Trip(l, true))), api.OK, worths(once)...)
		is(t, "Mirror behind the matrix", apart(sure(ray.Mul(sure(ray.Mirror(once)), once))), api.OK, worths(trip)...)
		is(t, "Trip round of the bench and the reversed one", apart(sure(cavity.Trip(append(slices.Clone(l), sure(bench.Reverse(l))...), true))), api.OK, worths(trip)...)
	}
}

// P12.4: Two is the trip of two lenses and two spaces, going round; of mirrors of one curvature, as of one half of it.
func TestMirrorsAsBenches(t *testing.T) {
	r := rand.New(rand.NewSource(126))
	for i := range 300 {
		p, q, length := some(r, 1+i%40), some(r, 1+i%40), size(some(r, 1+i%40))
		l := []api.Element{lens(times(rat(2), p)), space(length), lens(times(rat(2), q)), space(length)}
		m := sure(cavity.Two(of(p), of(q), of(length)))
		is(t, "Two as a bench", apart(sure(cavity.Trip(l, true))), api.OK, worths(m)...)
		half := sure(cavity.Trip(l[:2], true))
		is(t, "Two of one curvature", apart(sure(cavity.Two(of(p), of(p), of(length)))), api.OK, worths(sure(ray.Mul(half, half)))...)
	}
}

// ofAllKinds: matrices of each Kind, many of them on the border.
func ofAllKinds(r *rand.Rand) (l []rats) {
	for i := range 300 {
		l = append(l, someMatrix(r, 2+i%40), ofTrace(r, rat(int64(i%5)-2), 2+i%20), ofTrace(r, big.NewRat(int64(i%9)-4, 2), 5))
	}
	for _, text := range []string{"1 0 0 1", "-1 0 0 -1", "1 1 0 1", "1 0 1 1", "-1 1 0 -1", "-1 0 1 -1"} {
		l = append(l, list(text))
	}
	return l
}

// P12.4: Kind of a matrix is that of Back, of Mirror, of the same seen from elsewhere.
func TestSameKinds(t *testing.T) {
	r := rand.New(rand.NewSource(127))
	for _, m := range ofAllKinds(r) {
		kind := sure(cavity.Kind(made(m)))
		isKind(t, sure(ray.Back(made(m))), kind)
		isKind(t, sure(ray.Mirror(made(m))), kind)
		isKind(t, made(negated(m)), kind)
		o := made(someMatrix(r, 1+r.Intn(60)))
		isKind(t, sure(ray.Mul(o, sure(ray.Mul(made(m), sure(ray.Back(o)))))), kind)
	}
}

// P12.4: going round, it is all the same at which element a bench begins; and which way round light goes.
func TestWhereABenchBegins(t *testing.T) {
	count := map[api.Stability]int{}
	all := append(short(), row("l 2, s 1, l 2, s 1"), row("l 1, s 1, l 1, s 1"), row("s 1, s 2, f"), row("l 1, f, l 2, f"), row("l 4, s 1"), row("f, s 0, f, l 0"))
	for _, l := range all {
		kind := sure(cavity.Kind(sure(cavity.Trip(l, true))))
		count[kind]++
		for i := range l {
			turned := slices.Concat(l[i:], l[:i])
			isKind(t, sure(cavity.Trip(turned, true)), kind)
		}
		isKind(t, sure(cavity.Trip(sure(bench.Reverse(l)), true)), kind)
	}
	for kind := api.StStable; kind <= api.StUnstable; kind++ {
		if count[kind] < 3 {
			t.Errorf("Kind %d came %d times alone", kind, count[kind])
		}
	}
}

// P12.2: what stays: behind many trips a stable one's entries are no greater than a bound, an unstable one's are.
func TestWhatStays(t *testing.T) {
	for _, c := range []struct {
		m    string
		want api.Stability
	}{{"0 1 -1 1", api.StStable}, {"1 1 -1 0", api.StStable}, {"-1 0 0 -1", api.StNeutral}, {"1 2 0 1", api.StEdge}, {"2 3 1 2", api.StUnstable}, {"-2 0 0 -1/2", api.StUnstable}} {
		m, out := list(c.m), list("1 0 0 1")
		isKind(t, made(m), c.want)
		for range 64 {
			out = behind(m, out)
		}
		greatest := rat(0)
		for _, x := range out {
			greatest = slices.MaxFunc(rats{greatest, size(x)}, (*big.Rat).Cmp)
		}
		if stays := c.want == api.StStable || c.want == api.StNeutral; stays != (greatest.Cmp(rat(2)) < 0) {
			t.Errorf("%s: %s behind 64 trips", c.m, greatest.RatString())
		}
	}
}
