package orbit_test

import (
	"math/big"
	"math/rand"
	"testing"

	"polestar/api"
)

// wantLeaves: the first trip behind which a ray is farther, one by one; -1: none of the first ones, as many as asked for.
func wantLeaves(m, r rats, limit *big.Rat, most int) int {
	common, first := commonDen(m...), commonDen(append(r[:2:2], limit)...)
	in := [2]*big.Int{scaledInt(r[0], first), scaledInt(r[1], first)}
	far := scaledInt(limit, first)
	for n := 0; ; n++ {
		if in[0].CmpAbs(far) > 0 || in[1].CmpAbs(far) > 0 || far.Sign() < 0 {
			return n
		}
		if n == most {
			return -1
		}
		y, u, _ := column(m, in, 1)
		in = [2]*big.Int{y, u}
		far = new(big.Int).Mul(far, common)
	}
}

// looksLeaves: is it told when a ray leaves?
func looksLeaves(t *testing.T, m, r rats, limit *big.Rat) {
	t.Helper()
	if n := wantLeaves(m, r, limit, api.MaxTrips); n >= 0 {
		leavesAt(t, made(m), madeRay(r), of(limit), n)
	} else {
		leavesNever(t, made(m), madeRay(r), of(limit))
	}
}

// aroundIt: a limit, and what is a hair beside it.
func aroundIt(x *big.Rat) rats {
	hair := inverse(power(70, 0))
	return rats{x, plus(x, hair), less(x, hair)}
}

// P13.5: limits that are just met, just passed and just missed, behind some trip, by the height and by the steepness.
func TestLeaves(t *testing.T) {
	r := rand.New(rand.NewSource(140))
	for i := range 250 {
		m := ofTrace(r, someTrace(r), 1+i%5)
		if i%3 == 0 {
			m = someMatrix(r, 1+i%4)
		}
		in := someRay(r, 1+i%30)
		at := wantAfter(m, in, r.Intn(9))
		for _, limit := range aroundIt(size(at[i%2])) {
			looksLeaves(t, m, in, limit)
		}
		looksLeaves(t, m, in, some(r, 20))
		looksLeaves(t, m, list("0 0"), size(some(r, 20)))
	}
}

// P13.5: rays that stay never leave, where the limit is what they never pass; each Kind.
func TestNeverLeaves(t *testing.T) {
	r := rand.New(rand.NewSource(141))
	for range 12 {
		for _, text := range []string{"0 1 -1 0", "0 1 -1 1", "0 2 -1/2 -1", "1/3 1 -8/9 1/3", "1/2 1 -3/4 1/2", "1 0 0 1", "-1 0 0 -1"} {
			m, in := list(text), scaled(someRay(r, 6), rat(1+r.Int63n(5)))
			height := wantBound(m, in)
			steep := wantBound(rats{m[3], m[2], m[1], m[0]}, rats{in[1], in[0]})
			for _, x := range (rats{height, steep}) { // a number whose square is not below either
				if root := new(big.Rat).SetInt(new(big.Int).Add(new(big.Int).Sqrt(new(big.Int).Quo(x.Num(), x.Denom())), big.NewInt(1))); root.Cmp(greatest(in)) >= 0 {
					looksLeaves(t, m, in, root)
				}
			}
			most := rat(0)
			for _, x := range (rats{height, steep}) {
				most = plus(most, plus(x, rat(1)))
			}
			leavesNever(t, made(m), madeRay(in), of(most))
		}
	}
}

// P13.5: by the height alone, and by the steepness alone; of both signs.
func TestLeavesByOne(t *testing.T) {
	for _, c := range []struct {
		m, r, limit string
		want        int // -1: never
	}{
		{"1 2 0 1", "0 1", "10", 6}, {"1 2 0 1", "0 -1", "10", 6}, {"1 -2 0 1", "0 1", "9", 5}, {"-1 2 0 -1", "0 1", "9", 5}, {"-1 2 0 -1", "0 1", "10", 6},
		{"1 0 2 1", "1 0", "10", 6}, {"1 0 2 1", "-1 0", "10", 6}, {"1 0 -2 1", "1 0", "9", 5}, {"-1 0 2 -1", "1 0", "9", 5}, {"-1 0 2 -1", "1 0", "10", 6},
		{"2 0 0 1/2", "1 0", "8", 4}, {"2 0 0 1/2", "1 0", "7", 3}, {"2 0 0 1/2", "-1 5", "8", 4}, {"-2 0 0 -1/2", "1 0", "8", 4}, {"-2 0 0 -1/2", "-1 0", "7", 3},
		{"1/2 0 0 2", "0 1", "8", 4}, {"1/2 0 0 2", "0 1", "7", 3}, {"1/2 0 0 2", "7 -1", "7", 3}, {"-1/2 0 0 -2", "0 1", "8", 4},
		{"0 2 -1/2 0", "0 3", "5", 1}, {"0 2 -1/2 0", "0 3", "6", -1}, {"0 2 -1/2 0", "6 0", "6", -1}, {"0 1/2 -2 0", "3 0", "5", 1}, {"0 1/2 -2 0", "3 0", "6", -1},
		{"1 0 0 1", "3 -4", "4", -1}, {"1 0 0 1", "3 -4", "3", 0}, {"-1 0 0 -1", "-4 3", "4", -1}, {"-1 0 0 -1", "-4 3", "399/100", 0},
	} {
		if c.want >= 0 {
			leavesAt(t, matrix(c.m), theRay(c.r), num(c.limit), c.want)
		} else {
			leavesNever(t, matrix(c.m), theRay(c.r), num(c.limit))
		}
	}
}

// P13.5: limits of nought and below it.
func TestLeavesNought(t *testing.T) {
	hair := of(inverse(most()))
	for _, text := range append(kinds(), "-1 1 -1 0") {
		m := matrix(text)
		for _, limit := range []api.Frac{num("0"), num("1"), hair, of(most())} {
			leavesNever(t, m, theRay("0 0"), limit)
		}
		for _, limit := range []api.Frac{num("-1"), of(minus(worth(hair))), of(minus(most()))} {
			for _, r := range rayTexts() {
				leavesAt(t, m, theRay(r), limit, 0)
			}
		}
		for _, r := range []api.Ray{theRay("1 0"), theRay("0 -1"), {Y: hair, U: num("0")}, {Y: num("0"), U: hair}} {
			leavesAt(t, m, r, num("0"), 0)
		}
	}
}

// P13.5: MaxTrips trips, and one more, by whole numbers and by fractions, on a line that grows, on the edge and between.
func TestLeavesAtLast(t *testing.T) {
	last := rat(api.MaxTrips - 1)
	for _, step := range list("2 1/3 -4/9") {
		for _, sign := range []rats{list("1 0 0 1"), list("-1 0 0 -1")} {
			for _, m := range []rats{{rat(1), step, rat(0), rat(1)}, {rat(1), rat(0), step, rat(1)}} {
				m, limit := behind(sign, m), times(size(step), last)
				in := rats{rat(0), rat(1)}
				if m[1].Sign() == 0 {
					in = rats{rat(1), rat(0)}
				}
				leavesAt(t, made(m), madeRay(in), of(limit), api.MaxTrips)
				leavesNever(t, made(m), madeRay(in), of(plus(limit, size(step))))
				leavesAt(t, made(m), madeRay(in), of(less(plus(limit, size(step)), inverse(power(60000, 0)))), api.MaxTrips)
			}
		}
	}
	x := big.NewRat(40001, 40000)
	m := rats{x, rat(0), rat(0), inverse(x)}
	far := func(n int) *big.Rat { return wantAfter(m, list("1 0"), n)[0] }
	for _, n := range []int{1, 2, 100, 2000, api.MaxTrips - 1} {
		leavesAt(t, made(m), theRay("1 0"), of(far(n)), n+1)
		leavesAt(t, made(negated(m)), theRay("-1 1"), of(far(n)), n+1)
	}
	leavesNever(t, made(m), theRay("1 0"), of(far(api.MaxTrips)))
	leavesNever(t, made(m), theRay("0 1"), num("1"))
	leavesNever(t, made(negated(m)), theRay("1 0"), of(far(api.MaxTrips)))
	short := new(big.Int).Quo(new(big.Int).Lsh(far(api.MaxTrips).Num(), 40000), far(api.MaxTrips).Denom())
	leavesAt(t, made(m), theRay("1 0"), of(over(new(big.Rat).SetInt(short), power(40000, 0))), api.MaxTrips)
}

// P13.5: traces that are fractions, limits that are just met behind many trips: of all heights, and steepnesses, so far the greatest.
func TestLeavesMetLate(t *testing.T) {
	for _, text := range []string{"1/2 1 -3/4 1/2", "1/3 1 -8/9 1/3", "99/100 1 -199/10000 99/100", "-7/8 1 -15/64 -7/8", "1 1/64 -1/64 4095/4096"} {
		m, in := list(text), list("1 1/3")
		far, at := greatest(in), in
		for n := range 600 {
			if x := greatest(at); x.Cmp(far) > 0 {
				leavesAt(t, made(m), madeRay(in), of(far), n) // just met before, and now passed
				far = x
			}
			at = through(m, at)
		}
		looksLeaves(t, m, in, far)
	}
}

// P13.5: what reckoning ray by ray would take years for. A hair that makes a ray a hair greater with each trip; a line that makes it smaller, and one beside it.
func TestLeavesWithGreatNumbers(t *testing.T) {
	hair := inverse(power(32*api.MaxLimbs-2, 0))
	slow := plus(rat(1), hair)
	p := power(30000, 1)
	for _, sign := range []rats{list("1 0 0 1"), list("-1 0 0 -1")} {
		m := made(behind(sign, rats{slow, rat(0), rat(0), inverse(slow)}))
		leavesAt(t, m, theRay("1 0"), num("1"), 1)
		leavesNever(t, m, theRay("1 0"), num("1000001/1000000"))
		leavesNever(t, m, theRay("0 1"), num("1"))
		leavesAt(t, m, theRay("999 1000"), num("999"), 0)
		m = made(behind(sign, rats{p, rat(0), rat(0), inverse(p)}))
		leavesNever(t, m, theRay("0 1"), num("1"))
		leavesNever(t, m, madeRay(rats{rat(0), most()}), of(most()))
		leavesAt(t, m, madeRay(rats{over(rat(1), times(p, p)), rat(1)}), num("1"), 3)
		leavesAt(t, m, madeRay(rats{over(rat(1), times(p, p)), rat(1)}), of(plus(p, rat(1))), 4)
		leavesAt(t, m, madeRay(rats{inverse(p), rat(-1)}), num("1"), 2)
	}
}

// P13.5: light that turns so slowly, or grows so slowly, that thousands of bits are needed to see it.
func TestLeavesSlowly(t *testing.T) {
	hair := inverse(power(3000, -1))
	slow, fast := rats{rat(1), rat(1), minus(hair), less(rat(1), hair)}, rats{rat(1), rat(1), hair, plus(rat(1), hair)}
	leavesNever(t, made(slow), theRay("1 0"), num("1")) // ever lower, by less than can be seen
	leavesAt(t, made(fast), theRay("1 0"), num("1"), 2)
	leavesAt(t, made(slow), theRay("0 1"), num("1000"), 1001)
	leavesAt(t, made(fast), theRay("0 1"), num("1000"), 1000)
	leavesAt(t, made(slow), theRay("0 1"), num("4095"), 4096)
	leavesNever(t, made(slow), theRay("0 1"), num("4096"))
	leavesAt(t, made(fast), theRay("0 1"), num("4096"), 4096)
	leavesNever(t, made(fast), theRay("0 1"), num("4097"))
}

// P13.5: fractions that fill the limit, on rays that come again, just met at each of MaxTrips trips.
func TestLeavesThatComeAgain(t *testing.T) {
	r := rand.New(rand.NewSource(142))
	for _, text := range []string{"0 1 -1 0", "0 1 -1 1", "0 1 -1 -1", "1 0 0 1", "-1 0 0 -1"} {
		for _, in := range []rats{{most(), minus(inverse(most()))}, {inverse(most()), inverse(power(60000, 1))}, {minus(most()), most()}} {
			m, far := list(text), rat(0)
			for n := range 6 {
				if x := greatest(wantAfter(m, in, n)); x.Cmp(far) > 0 {
					far = x
				}
			}
			if !tooGreat(far) {
				leavesNever(t, made(m), madeRay(in), of(far))
			}
		}
	}
	m := seen(list("0 1 -1 1"), someMatrix(r, 3000))
	in, far := someRay(r, 4000), rat(0)
	for n := range 6 {
		if x := greatest(wantAfter(m, in, n)); x.Cmp(far) > 0 {
			if n > 0 {
				leavesAt(t, made(m), madeRay(in), of(far), n)
			}
			far = x
		}
	}
	leavesNever(t, made(m), madeRay(in), of(far))
}

// P13.5: long fractions everywhere, limits that are met and passed behind some trips.
func TestLeavesWithLongFractions(t *testing.T) {
	r := rand.New(rand.NewSource(143))
	for i := range 24 {
		bits := 200 + 60*i
		m, in := ofTrace(r, some(r, bits), bits), someRay(r, bits)
		if i%2 == 0 {
			m = ofTrace(r, times(someTrace(r), less(rat(1), inverse(power(uint(bits), 1)))), bits)
		}
		far, at := greatest(in), in
		for n := range 6 {
			if x := greatest(at); x.Cmp(far) > 0 && !tooGreat(x) {
				leavesAt(t, made(m), madeRay(in), of(far), n)
				short := over(new(big.Rat).SetInt(new(big.Int).Quo(new(big.Int).Lsh(x.Num(), 900), x.Denom())), power(900, 0))
				if short.Cmp(far) > 0 { // a little lower than behind n trips
					leavesAt(t, made(m), madeRay(in), of(short), n)
				}
				far = x
			}
			at = through(m, at)
		}
	}
}
