package orbit_test

import (
	"math/big"
	"math/rand"
	"testing"

	"polestar/api"
	"polestar/cavity"
	"polestar/frac"
	"polestar/orbit"
	"polestar/ray"
)

// sure: an answer that must not be refused.
func sure[T any](x T, e api.Errno) T {
	if e != api.OK {
		panic(e)
	}
	return x
}

// both is a matrix and a ray.
type both struct{ m, r rats }

// pairs: of each Kind, and rays that stay there and rays that do not.
func pairs() (l []both) {
	r := rand.New(rand.NewSource(160))
	for i := range 120 {
		l = append(l, both{ofTrace(r, someTrace(r), 1+i%20), someRay(r, 1+i%25)}, both{someMatrix(r, 1+i%12), someRay(r, 9)})
		m, up, down := keeps(r, other(r, 5), 1+i%8)
		l = append(l, both{m, up}, both{m, down}, both{m, list("0 0")})
	}
	for _, text := range kinds() {
		for _, in := range rayTexts() {
			l = append(l, both{list(text), list(in)})
		}
	}
	return l
}

// P13.6: Power of a + b is Power of a behind Power of b; After is Through of Power; of none and of one trip.
func TestTripsTogether(t *testing.T) {
	r := rand.New(rand.NewSource(161))
	for _, c := range pairs() {
		m, in := made(c.m), madeRay(c.r)
		a, b := r.Intn(12), r.Intn(12)
		first, second := sure(orbit.Power(m, a)), sure(orbit.Power(m, b))
		got, e := trips(m, a+b)
		is(t, "Power of a and b", got, e, worths(sure(ray.Mul(first, second)))...)
		if ray.Check(first) != api.OK {
			t.Fatal("a Power that may not be")
		}
		got, e = after(m, in, a)
		is(t, "After", got, e, worthsRay(sure(ray.Through(first, in)))...)
		got, e = after(m, sure(orbit.After(m, in, a)), b)
		is(t, "After of After", got, e, worthsRay(sure(orbit.After(m, in, a+b)))...)
		got, e = trips(sure(ray.Back(m)), a)
		is(t, "Power of Back", got, e, worths(sure(ray.Back(first)))...)
		got, e = trips(first, b)
		is(t, "Power of Power", got, e, worths(sure(orbit.Power(m, a*b)))...)
	}
}

// P13.6: the form is the same behind any trips; and so is Bound, where the Kind is StStable or StNeutral, and whether it stays, wherever it begins.
func TestWhatNoTripChanges(t *testing.T) {
	for _, c := range pairs() {
		m, in := made(c.m), madeRay(c.r)
		want, stays := worth(sure(orbit.Form(m, in))), sure(orbit.Stays(m, in))
		kind := sure(cavity.Kind(m))
		for n := range 9 {
			at := sure(orbit.After(m, in, n))
			got, e := form(m, at)
			is(t, "Form behind trips", got, e, want)
			isStays(t, m, at, stays)
			if kind == api.StStable || kind == api.StNeutral {
				got, e = bound(m, at)
				is(t, "Bound behind trips", got, e, worth(sure(orbit.Bound(m, in))))
			}
		}
	}
}

// P13.6: the square of the height of what stays never is above Bound, nor comes it farther than the greatest of both bounds.
func TestHeightsWithinBound(t *testing.T) {
	stay := 0
	for _, c := range pairs() {
		m, in := made(c.m), madeRay(c.r)
		if !sure(orbit.Stays(m, in)) {
			continue
		}
		stay++
		most := worth(sure(orbit.Bound(m, in)))
		if most.Sign() < 0 {
			t.Fatalf("Bound of %s is below nought", toldAll(m, in))
		}
		at, near := c.r, rat(0)
		for n := range 60 {
			square := times(at[0], at[0])
			if square.Cmp(most) > 0 {
				t.Fatalf("%s comes beyond its Bound behind %d trips", toldAll(m, in), n)
			}
			if square.Cmp(near) > 0 {
				near = square
			}
			at = through(c.m, at)
		}
		if wantKind(c.m) != api.StStable && near.Cmp(most) != 0 {
			t.Fatalf("Bound of %s is never met", toldAll(m, in))
		}
	}
	if stay < 100 {
		t.Fatalf("%d rays stay alone", stay)
	}
}

// P13.6: Bound is no greater than it must be: of light that turns by no part of a turn, some trip comes near it.
func TestBoundsAreMet(t *testing.T) {
	for _, text := range []string{"1/3 1 -8/9 1/3", "3/5 4/5 -4/5 3/5", "1/2 3 -1/2 -1", "7/8 -2 1/2 0"} {
		m, in := list(text), list("3 -2/5")
		if wantKind(m) != api.StStable {
			t.Fatal(text)
		}
		most := worth(sure(orbit.Bound(made(m), madeRay(in))))
		near, at := rat(0), in
		for range 300 {
			if square := times(at[0], at[0]); square.Cmp(near) > 0 {
				near = square
			}
			at = through(m, at)
		}
		if near.Cmp(times(most, big.NewRat(99, 100))) < 0 {
			t.Fatalf("Bound of %s is %s, and no square is above %s", text, most.FloatString(6), near.FloatString(6))
		}
	}
}

// P13.6: what does not stay leaves each limit; Leaves tells the first trip, ahead of which it is not farther.
func TestWhatDoesNotStay(t *testing.T) {
	leave := 0
	for _, c := range pairs() {
		m, in := made(c.m), madeRay(c.r)
		if sure(orbit.Stays(m, in)) {
			continue
		}
		leave++
		last := -1
		for _, limit := range []string{"-1", "0", "1", "3", "20", "50"} {
			n, e := orbit.Leaves(m, in, num(limit))
			if e == api.ErrDeep && slow(c) {
				continue
			}
			if e != api.OK || n < last {
				t.Fatalf("Leaves of %s; %s = %d, %v, and %d of a lower limit", toldAll(m, in), limit, n, e, last)
			}
			last = n
			if n > 300 {
				continue
			}
			if at := sure(orbit.After(m, in, n)); greatest(worthsRay(at)).Cmp(parse(limit)) <= 0 {
				t.Fatalf("%s is not farther than %s behind %d trips", toldAll(m, in), limit, n)
			}
			for k := range n {
				if at := wantAfter(c.m, c.r, k); greatest(at).Cmp(parse(limit)) > 0 {
					t.Fatalf("%s is farther than %s behind %d trips, not %d", toldAll(m, in), limit, k, n)
				}
			}
		}
	}
	if leave < 100 {
		t.Fatalf("%d rays leave alone", leave)
	}
}

// slow: is it farther than 50 not within MaxTrips?
func slow(c both) bool {
	at := wantAfter(c.m, c.r, api.MaxTrips)
	return greatest(at).Cmp(rat(50)) <= 0
}

// P13.5, P13.6: a ray that leaves a limit behind n trips leaves it behind n - k, once k trips are done.
func TestLeavesFromElsewhere(t *testing.T) {
	for _, c := range pairs() {
		m, in := made(c.m), madeRay(c.r)
		n, e := orbit.Leaves(m, in, num("9"))
		if e != api.OK || n > 40 {
			continue
		}
		for k := range n + 1 {
			at := sure(orbit.After(m, in, k))
			leavesAt(t, m, at, num("9"), n-k)
			leavesAt(t, m, sure(ray.Through(matrix("-1 0 0 -1"), at)), num("9"), n-k)
		}
	}
}

// DOC.md, P0.2: one that does not stay comes farther than any limit that fractions can tell, as far as MaxTrips goes.
func TestFartherThanAny(t *testing.T) {
	for _, c := range [][3]string{{"2 3 1 2", "1 0", "1"}, {"-3 1 -1 0", "0 1", "1"}, {"2 0 0 1/2", "1/1000000 0", "1"}, {"1/1000000 0 0 1000000", "5 1/7", "1"}, {"1000001/1000 0 0 1000/1000001", "1 1", "1"}} {
		m, in := matrix(c[0]), theRay(c[1])
		n, e := orbit.Leaves(m, in, of(power(4000, 0)))
		if e != api.OK {
			t.Fatalf("Leaves of %s = %v", toldAll(m, in), e)
		}
		if at := sure(orbit.After(m, in, n)); frac.Cmp(of(greatest(worthsRay(at))), of(power(4000, 0))) <= 0 {
			t.Fatalf("%s is not farther behind %d trips", toldAll(m, in), n)
		}
		if at := sure(orbit.After(m, in, n-1)); frac.Cmp(of(greatest(worthsRay(at))), of(power(4000, 0))) > 0 {
			t.Fatalf("%s is farther behind %d trips", toldAll(m, in), n-1)
		}
	}
}
