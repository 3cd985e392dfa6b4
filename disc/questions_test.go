package disc_test

import (
	"fmt"
	"math"
	"math/big"
	"math/rand"
	"slices"
	"testing"

	"polestar/api"
	"polestar/disc"
)

// asks: In and Apart of two discs are what the library's fractions say.
func asks(t *testing.T, a, b api.Disc) {
	t.Helper()
	off := exact(a.C).less(exact(b.C)).norm()
	less, sum := sub(worth(b.R), worth(a.R)), add(worth(a.R), worth(b.R))
	want := less.Sign() > 0 && off.Cmp(mul(less, less)) < 0
	if in, e := disc.In(a, b); in != want || e != api.OK {
		t.Fatalf("In(%s, %s) = %v, %v", tell(a), tell(b), in, e)
	}
	want = off.Cmp(mul(sum, sum)) > 0
	if apart, e := disc.Apart(a, b); apart != want || e != api.OK {
		t.Fatalf("Apart(%s, %s) = %v, %v", tell(a), tell(b), apart, e)
	}
}

// holds: is a number in a disc?
func holds(t *testing.T, d api.Disc, z pair, want bool) {
	t.Helper()
	if has, e := disc.Has(d, z.number()); has != want || e != api.OK {
		t.Fatalf("Has(%s, %.200s) = %v, %v", tell(d), z, has, e)
	}
}

// P7.4
func TestTwoDiscs(t *testing.T) {
	r := rand.New(rand.NewSource(75))
	count := 0
	pairs(func(a, b api.Disc) {
		if count++; count%3 != 0 {
			return
		}
		asks(t, a, b)
		// Discs whose edges about touch.
		off := farUp(complex(real(a.C)/2-real(b.C)/2, imag(a.C)/2-imag(b.C)/2)) * 2
		if off > most {
			return
		}
		x := off * r.Float64()
		asks(t, at(a.C, x), at(b.C, off-x))
		asks(t, at(a.C, x), at(b.C, min(off+x, most)))
	})
}

// P7.4: discs that touch, from outside and from inside, and such as miss it by a float; great, small, and far from nought.
func TestTouching(t *testing.T) {
	for _, c := range []struct{ x, y, far float64 }{{3, 4, 5}, {-5, 12, 13}, {0, -7, 7}, {119, -120, 169}} {
		for e := -1074; e <= 960; e += 61 {
			for _, about := range []complex128{0, complex(1<<40, -1<<30)} {
				unit := math.Ldexp(1, e)
				x := complex(c.x*unit, c.y*unit)
				a, b := about*complex(unit, 0), about*complex(unit, 0)+x
				for _, part := range []float64{0, 1, 2, c.far} {
					mine, yours := part*unit, (c.far-part)*unit
					for _, more := range []float64{mine, math.Nextafter(mine, infinity), math.Nextafter(mine, 0)} {
						asks(t, at(a, more), at(b, yours))
						asks(t, at(b, yours), at(a, more))
						asks(t, at(a, more), at(b, c.far*unit+mine))
						asks(t, at(b, more), at(a, c.far*unit+mine))
					}
					yes := func(what string, got bool, e api.Errno, want bool) {
						t.Helper()
						if got != want || e != api.OK {
							t.Fatalf("%s of (%v, %v) and 2^%d, %v = %v, %v", what, c.x, c.y, e, part, got, e)
						}
					}
					apart, f := disc.Apart(at(a, mine), at(b, yours))
					yes("Apart", apart, f, false)
					in, f := disc.In(at(a, mine), at(b, c.far*unit+mine))
					yes("In", in, f, false)
					in, f = disc.In(at(a, mine), at(b, math.Nextafter(c.far*unit+mine, infinity)))
					yes("In", in, f, true)
				}
			}
		}
	}
}

// P7.4: points, and discs with one middle.
func TestPointsAndRings(t *testing.T) {
	for _, c := range []struct {
		a, b      api.Disc
		in, apart bool
	}{
		{at(0, 0), at(0, 0), false, false}, {at(0, 0), at(complex(minus0, minus0), tiny), true, false}, {at(0, tiny), at(0, 0), false, false},
		{at(1, 1), at(1, 1), false, false}, {at(1, 1), at(1, 1+eps), true, false}, {at(1, 1+eps), at(1, 1), false, false},
		{at(1, 0), at(1+eps, 0), false, true}, {at(complex(0, tiny), 0), at(0, 0), false, true}, {at(complex(0, tiny), 0), at(0, tiny), false, false}, {at(complex(tiny, tiny), 0), at(0, tiny), false, true},
		{at(0, most), at(0, most), false, false}, {at(most, most), at(-most, most), false, false}, {at(complex(most, tiny), most), at(-most, most), false, true},
		{at(complex(most, most), 0), at(complex(-most, -most), most), false, true}, {at(10, 100), at(0, 1), false, false}, {at(0, 1), at(10, 100), true, false},
	} {
		if in, e := disc.In(c.a, c.b); in != c.in || e != api.OK {
			t.Errorf("In(%s, %s) = %v, %v", tell(c.a), tell(c.b), in, e)
		}
		if apart, e := disc.Apart(c.a, c.b); apart != c.apart || e != api.OK {
			t.Errorf("Apart(%s, %s) = %v, %v", tell(c.a), tell(c.b), apart, e)
		}
	}
}

// circle: the number on the unit circle at the angle whose half has this tangent.
func circle(t *big.Rat) pair {
	one := big.NewRat(1, 1)
	half := pair{one, t}
	return half.over(half.mirrored())
}

// P7.4: numbers on the edge, a hair within and a hair outside.
func TestHas(t *testing.T) {
	r := rand.New(rand.NewSource(76))
	hair := power(-3000)
	out, within := add(big.NewRat(1, 1), hair), sub(big.NewRat(1, 1), hair)
	ask := func(d api.Disc) {
		t.Helper()
		holds(t, d, exact(d.C), true)
		edge := circle(big.NewRat(r.Int63n(200)-100, 1+r.Int63n(100))).scaled(worth(d.R))
		holds(t, d, exact(d.C).plus(edge), true)
		holds(t, d, exact(d.C).plus(edge.scaled(within)), true)
		holds(t, d, exact(d.C).plus(edge.scaled(out)), d.R == 0)
		holds(t, d, exact(d.C).plus(pair{new(big.Rat), add(worth(d.R), hair)}), false)
		holds(t, d, exact(d.C).plus(pair{neg(add(worth(d.R), hair)), new(big.Rat)}), false)
		z := exact(near(r, r.Intn(2000)-1000).C)
		holds(t, d, z, z.within(d))
	}
	for i, d := range discs() {
		if i%3 == 0 {
			ask(d)
		}
	}
	for range 300 {
		ask(near(r, r.Intn(2100)-1078))
	}
}

// P7.4: numbers with as many limbs as may be: what is reckoned with on the way has more.
func TestHasAtLimit(t *testing.T) {
	top := power(32*api.MaxLimbs - 1)
	almost := sub(add(top, top), power(0))
	nought := new(big.Rat)
	below := new(big.Rat).SetFrac(sub(almost, power(0)).Num(), almost.Num()) // a hair below 1
	above := new(big.Rat).Inv(below)
	least := new(big.Rat).Inv(almost)
	for _, c := range []struct {
		d    api.Disc
		z    pair
		want bool
	}{
		{at(0, 1), pair{below, nought}, true}, {at(0, 1), pair{nought, neg(above)}, false}, {at(0, 1), pair{below, least}, true}, {at(0, 1), pair{above, least}, false},
		{at(1, 0), pair{below, nought}, false}, {at(1, tiny), pair{below, least}, true}, {at(1, tiny), pair{above, neg(least)}, true},
		{at(0x1.8p-1000, full), pair{least, below}, false}, {at(0, most), pair{almost, least}, false}, {at(0, most), pair{neg(top), top}, false}, {at(0, 0), pair{least, least}, false},
		{at(complex(tiny, 1), tiny), pair{least, below}, true}, {at(complex(tiny, 1), tiny), pair{neg(least), below}, false}, {at(complex(tiny, 1), 2*tiny), pair{least, below}, true},
	} {
		holds(t, c.d, c.z, c.want)
	}
	tan := sub(power(32*api.MaxLimbs/2-1), big.NewRat(1, 1))
	tan.Quo(tan, power(32*api.MaxLimbs/2-1)) // its number on the circle has limbs up to the limit
	z := circle(tan)
	holds(t, at(0, 1), z, true)
	holds(t, at(0, 1-eps), z, false)
	holds(t, at(2, 1), z.plus(pair{big.NewRat(2, 1), nought}), true)
}

// limbs: the four lists of a number.
func limbs(z *api.Gauss) []*[]uint32 {
	return []*[]uint32{&z.Re.Num.Mag, &z.Re.Den.Mag, &z.Im.Num.Mag, &z.Im.Den.Mag}
}

// R4: what is handed in stays as it is, its spare room too; and asked again, the answer is the same.
func TestMemory(t *testing.T) {
	values := []*big.Rat{new(big.Rat), big.NewRat(-1, 3), big.NewRat(5, 4), power(1100), neg(power(-1100)), worth(-most)}
	for _, x := range values {
		for _, y := range values {
			z := pair{x, y}.number()
			var rooms, was [][]uint32
			for _, l := range limbs(&z) {
				room := append(slices.Clone(*l), 11, 12, 13)
				*l = room[:len(*l)]
				rooms, was = append(rooms, room), append(was, slices.Clone(room))
			}
			what := fmt.Sprintf("of %v and %v", x, y)
			d, e := disc.Of(z)
			again, code := disc.Of(z)
			is(t, "Of "+what, again, code, d, e)
			has, e := disc.Has(at(1i, 3), z)
			if again, code := disc.Has(at(1i, 3), z); again != has || code != e {
				t.Errorf("Has %s = %v, then %v", what, has, again)
			}
			for i := range rooms {
				if !slices.Equal(rooms[i], was[i]) {
					t.Errorf("Of or Has %s has changed what it was given", what)
				}
			}
		}
	}
}
