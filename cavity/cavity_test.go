package cavity_test

import (
	"math/big"
	"math/rand"
	"testing"

	"polestar/api"
)

// does: what an element's matrix is, by the document's table.
func does(e api.Element) rats {
	p, q := worth(e.P), worth(e.Q)
	switch e.Kind {
	case api.ElSpace:
		return rats{rat(1), p, rat(0), rat(1)}
	case api.ElLens:
		return rats{rat(1), rat(0), minus(p), rat(1)}
	case api.ElSlab:
		return rats{rat(1), over(p, q), rat(0), rat(1)}
	case api.ElSurface:
		return rats{rat(1), rat(0), minus(times(p, q)), rat(1)}
	}
	return rats{rat(-1), rat(0), rat(0), rat(-1)}
}

// The promises in the library's fractions.

func wantTrip(l []api.Element, ring bool) rats {
	all := list("1 0 0 1")
	for _, e := range l {
		all = behind(does(e), all)
	}
	for i := len(l) - 1; i >= 0 && !ring; i-- { // thrown back, light meets the last one first
		all = behind(does(l[i]), all)
	}
	return all
}

func wantTwo(p, q, length *big.Rat) rats {
	all := list("1 0 0 1")
	for _, curvature := range (rats{p, q}) {
		turned := rats{rat(1), rat(0), times(rat(-2), curvature), rat(1)}
		all = behind(behind(rats{rat(1), length, rat(0), rat(1)}, turned), all)
	}
	return all
}

func wantFactors(p, q, length *big.Rat) rats {
	return rats{less(rat(1), times(p, length)), less(rat(1), times(q, length))}
}

func wantKind(m rats) api.Stability {
	trace := size(plus(m[0], m[3])).Cmp(rat(2))
	one := m[0].Cmp(m[3]) == 0 && size(m[0]).Cmp(rat(1)) == 0 && m[1].Sign() == 0 && m[2].Sign() == 0
	switch {
	case trace < 0:
		return api.StStable
	case trace > 0:
		return api.StUnstable
	case one:
		return api.StNeutral
	}
	return api.StEdge
}

// P12.1: against the library's fractions.
func TestTrip(t *testing.T) {
	for _, l := range benches() {
		bothWays(func(what string, ring bool) {
			got, e := trip(l, ring)
			fits(t, what+toldBench(l), got, e, wantTrip(l, ring))
		})
	}
}

// P12.1: each element alone, and pairs that hang on their order.
func TestTripsOfFew(t *testing.T) {
	for _, c := range [][3]string{
		{"s 3", "1 3 0 1", "1 6 0 1"}, {"l 3", "1 0 -3 1", "1 0 -6 1"}, {"b 3 3/2", "1 2 0 1", "1 4 0 1"}, {"u 1/2 -1/2", "1 0 1/4 1", "1 0 1/2 1"},
		{"f", "-1 0 0 -1", "1 0 0 1"}, {"s 0", "1 0 0 1", "1 0 0 1"}, {"l 0", "1 0 0 1", "1 0 0 1"}, {"f, f", "1 0 0 1", "1 0 0 1"},
		{"l 2, s 1/2", "0 1/2 -2 1", "-1 1 0 -1"}, {"s 1, l 1", "1 1 -1 0", "-1 0 -2 -1"}, {"l 1, s 1", "0 1 -1 1", "-1 2 0 -1"},
		{"s 1, l 1, s 1", "0 1 -1 0", "-1 0 0 -1"}, {"s 1, f, l 1/2", "-1 -1 1/2 -1/2", "0 1 -1 0"},
	} {
		got, e := trip(row(c[0]), true)
		is(t, "Trip round of "+c[0], got, e, list(c[1])...)
		got, e = trip(row(c[0]), false)
		is(t, "Trip forth and back of "+c[0], got, e, list(c[2])...)
	}
}

// P12.2: traces of 2 and -2, by one, its negative, and others.
func TestBorders(t *testing.T) {
	isKind(t, matrix("1 0 0 1"), api.StNeutral)
	isKind(t, matrix("-1 0 0 -1"), api.StNeutral)
	for _, text := range []string{
		"1 2 0 1", "1 -2 0 1", "1 0 5 1", "1 0 -5 1", "1 1/1000000 0 1", "1 0 -1/1000000 1", "3 4 -1 -1", "2 1 -1 0", "0 1 -1 2", "0 -1 1 2", "1/2 1/4 -1 3/2", "3/2 -1/4 1 1/2", "-5 -9 4 7",
	} {
		isKind(t, matrix(text), api.StEdge)
		isKind(t, made(negated(list(text))), api.StEdge)
	}
	hair := inverse(most())
	for _, m := range []rats{{rat(1), hair, rat(0), rat(1)}, {rat(1), rat(0), minus(hair), rat(1)}, {rat(1), most(), rat(0), rat(1)}, {rat(1), rat(0), most(), rat(1)}} {
		isKind(t, made(m), api.StEdge)
		isKind(t, made(negated(m)), api.StEdge)
	}
}

// P12.2: just above and just below a trace of 2 and of -2, by a million-th, by the least hair that a fraction has, and by less than that.
func TestBesideTheBorders(t *testing.T) {
	r := rand.New(rand.NewSource(121))
	for _, hair := range (rats{big.NewRat(1, 2), big.NewRat(1, 1000000), inverse(power(53, 0)), inverse(power(64, 0)), inverse(power(1100, 0)), inverse(power(30000, 1))}) {
		for range 20 {
			for _, t0 := range (rats{rat(2), rat(-2)}) {
				isKind(t, made(ofTrace(r, t0, 9)), api.StEdge)
				for _, t1 := range (rats{plus(t0, hair), less(t0, hair)}) {
					isKind(t, made(ofTrace(r, t1, 9)), wantKind(rats{t1, nil, nil, rat(0)}))
				}
			}
		}
		up := plus(rat(1), hair)
		isKind(t, made(rats{up, rat(0), rat(0), inverse(up)}), api.StUnstable)
		isKind(t, made(rats{minus(up), rat(0), rat(0), minus(inverse(up))}), api.StUnstable)
	}
	n, p := power(32*api.MaxLimbs, -2), power(32*api.MaxLimbs, -3)
	below := rats{plus(rat(1), inverse(n)), inverse(n), over(rat(-2), p), less(rat(1), inverse(p))} // the trace: 2 - 1 / n p
	above := rats{plus(rat(1), inverse(p)), rat(0), n, less(rat(1), inverse(n))}                    // 2 + 1 / n p
	isKind(t, made(below), api.StStable)
	isKind(t, made(negated(below)), api.StStable)
	isKind(t, made(above), api.StUnstable)
	isKind(t, made(negated(above)), api.StUnstable)
}

// P12.2: traces between -2 and 2 and beyond both, of many matrices each.
func TestKind(t *testing.T) {
	r := rand.New(rand.NewSource(122))
	count := map[api.Stability]int{}
	ask := func(m rats) {
		t.Helper()
		want := wantKind(m)
		isKind(t, made(m), want)
		count[want]++
	}
	for _, text := range []string{"0 1 -1 0", "0 -1 1 0", "0 1 -1 1", "0 1 -1 -1", "1 1 -1 0", "2 3 1 2", "-2 3 1 -2", "2 0 0 1/2", "-2 0 0 -1/2", "2 1 1 1", "0 1 -1 3", "0 1 -1 -3", "5 -26 1 -5"} {
		ask(list(text))
	}
	for i := range 1000 {
		ask(someMatrix(r, 2+i%100))
		ask(ofTrace(r, big.NewRat(r.Int63n(25)-12, 4), 2+i%60))
	}
	for _, kind := range []api.Stability{api.StStable, api.StEdge, api.StUnstable} {
		if count[kind] < 50 {
			t.Errorf("Kind %d was asked for %d times alone", kind, count[kind])
		}
	}
}

// P12.2, R7: a trace beyond the limit is no error; nor is it that what the determinant is made of is.
func TestKindOfGreatOnes(t *testing.T) {
	p := power(32*api.MaxLimbs-1, 0)
	steep := rats{p, plus(p, rat(-1)), plus(p, rat(1)), p}
	for _, m := range []rats{
		steep, {most(), rat(0), rat(0), inverse(most())}, {rat(0), rat(1), rat(-1), most()}, {p, rat(-1), rat(1), rat(0)},
	} {
		isKind(t, made(m), api.StUnstable)
		isKind(t, made(negated(m)), api.StUnstable)
	}
	r := rand.New(rand.NewSource(123))
	half := power(16*api.MaxLimbs-20, 0)
	turn := rats{half, less(half, rat(1)), plus(half, rat(1)), half}
	for _, text := range []string{"2", "-2", "0", "1", "-1", "3/2", "5/2", "-5/2", "2000001/1000000", "1999999/1000000", "-2000001/1000000", "-1999999/1000000"} {
		small := ofTrace(r, parse(text), 5)
		m := behind(behind(turn, small), undone(turn)) // of the same trace, with fractions that nearly fill the limit
		if size(m[0]).Cmp(power(32*api.MaxLimbs-200, 0)) < 0 {
			t.Fatal("no great numbers")
		}
		isKind(t, made(m), wantKind(small))
	}
	isKind(t, made(behind(behind(turn, list("-1 0 0 -1")), undone(turn))), api.StNeutral)
}

// P12.3: curvatures and lengths of nought, below nought (a mirror that bulges), and others.
func TestMirrors(t *testing.T) {
	r := rand.New(rand.NewSource(124))
	ask := func(p, q, length *big.Rat) {
		t.Helper()
		what := told(of(p), of(q), of(length))
		got, e := two(of(p), of(q), of(length))
		fits(t, "Two of "+what, got, e, wantTwo(p, q, length))
		got, e = factors(of(p), of(q), of(length))
		fits(t, "Factors of "+what, got, e, wantFactors(p, q, length))
	}
	few := list("0 1 -1 1/2 -1/2 2 -3 2/7")
	for _, p := range few {
		for _, q := range few {
			for _, length := range list("0 1 1/2 3 7/5") {
				ask(p, q, length)
			}
		}
	}
	for i := range 500 {
		ask(some(r, 1+i%80), some(r, 1+i%70), size(some(r, 1+i%60)))
	}
	for range 8 {
		ask(some(r, 9000), some(r, 9000), size(some(r, 9000)))
	}
}

// P12.3: mirrors that differ, so that it is to be seen which one light meets first.
func TestMirrorsThatDiffer(t *testing.T) {
	for _, c := range [][3]string{
		{"1 0 1", "-3 2 -2 1", "0 1"}, {"0 1 1", "-1 0 -2 -1", "1 0"}, {"1 1/2 1", "-2 1 -1 0", "0 1/2"}, {"1/2 1 2", "1 -4 1 -3", "0 -1"},
		{"-1 1/2 1", "2 1 -1 0", "2 1/2"}, {"1/3 -1/4 0", "1 0 -1/6 1", "1 1"}, {"-1/4 -1/4 2", "5 6 3/2 2", "3/2 3/2"}, {"1 -1/2 3/2", "-8 21/4 -4 5/2", "-1/2 7/4"},
	} {
		x := list(c[0])
		got, e := two(of(x[0]), of(x[1]), of(x[2]))
		is(t, "Two of "+c[0], got, e, list(c[1])...)
		got, e = factors(of(x[0]), of(x[1]), of(x[2]))
		is(t, "Factors of "+c[0], got, e, list(c[2])...)
	}
}
