package disc_test

import (
	"math/big"
	"math/rand"
	"testing"

	"polestar/api"
	"polestar/disc"
)

// numbers: some numbers that a disc has: its middle, such as lie on its edge, and such as lie within and are no floats.
func numbers(r *rand.Rand, d api.Disc) []pair {
	c, radius := exact(d.C), worth(d.R)
	l := []pair{c}
	if d.R == 0 {
		return l
	}
	for i := range 4 {
		z := circle(big.NewRat(r.Int63n(20)-10, 1+r.Int63n(10))).scaled(radius)
		if i == 3 {
			z = z.scaled(big.NewRat(2, 3))
		}
		l = append(l, c.plus(z))
	}
	return append(l, c.plus(pair{neg(radius), new(big.Rat)}), c.less(pair{new(big.Rat), radius}))
}

// few: pairs of discs, fewer than pairs has, most of a size that nothing is refused.
func few(ask func(a, b api.Disc)) {
	l := discs()
	for i, a := range l {
		for j := i % 499; j < len(l); j += 499 {
			ask(a, l[j])
		}
	}
	r := rand.New(rand.NewSource(77))
	for range 250 {
		n := r.Intn(900) - 450
		ask(near(r, n), near(r, r.Intn(900)-450))
		ask(near(r, n), near(r, n))
		ask(near(r, r.Intn(20)), near(r, r.Intn(20)))
		ask(near(r, n), near(r, -1050-n)) // about the least floats
	}
}

// has: does an answer have a number, by what the program says?
func has(t *testing.T, what string, d api.Disc, z pair) {
	t.Helper()
	if ok, e := disc.Has(d, z.number()); !ok || e != api.OK {
		t.Fatalf("%s: %s has not %.300s", what, tell(d), z)
	}
}

// P7.5: of numbers that discs have, what comes of them lies in the answer.
func TestAnswersHave(t *testing.T) {
	r := rand.New(rand.NewSource(78))
	exactly := map[string]func(z, w pair) pair{"Add": pair.plus, "Sub": pair.less, "Mul": pair.times, "Quo": pair.over}
	answered := map[string]int{}
	few(func(a, b api.Disc) {
		us, vs := numbers(r, a), numbers(r, b)
		for _, c := range twos() {
			d, e := c.do(a, b)
			if e != api.OK {
				continue
			}
			answered[c.name]++
			for i, u := range us {
				has(t, c.name, d, exactly[c.name](u, vs[i%len(vs)]))
			}
			for i, v := range vs {
				has(t, c.name, d, exactly[c.name](us[(i+1)%len(us)], v))
			}
		}
	})
	for _, c := range twos() {
		if answered[c.name] < 500 {
			t.Errorf("%s was answered %d times alone", c.name, answered[c.name])
		}
	}
}

// P7.5: products of edges' numbers that have one direction lie as far out as may be.
func TestFarthestLie(t *testing.T) {
	r := rand.New(rand.NewSource(79))
	for range 400 {
		a := at(complex(some(r, -3, 3), 0), 0)
		b := at(complex(some(r, -3, 3), 0), 0)
		a.R, b.R = farUp(complex(some(r, -20, 0), 0)), farUp(complex(some(r, -20, -4), 0))
		nought := new(big.Rat)
		for _, x := range []*big.Rat{worth(a.R), neg(worth(a.R))} {
			for _, y := range []*big.Rat{worth(b.R), neg(worth(b.R))} {
				u, v := exact(a.C).plus(pair{x, nought}), exact(b.C).plus(pair{y, nought})
				d, e := disc.Mul(a, b)
				if e != api.OK {
					t.Fatal(e)
				}
				has(t, "Mul", d, u.times(v))
				if d, e := disc.Quo(a, b); e == api.OK {
					has(t, "Quo", d, u.over(v))
				}
			}
		}
	}
}

// P7.5: Conj has the mirrored ones, Abs how far they are from nought, Of its number.
func TestOnesHave(t *testing.T) {
	r := rand.New(rand.NewSource(80))
	ask := func(a api.Disc) {
		t.Helper()
		d, e := disc.Conj(a)
		if e != api.OK {
			t.Fatalf("Conj(%s): %v", tell(a), e)
		}
		s, code := disc.Abs(a)
		for _, z := range numbers(r, a) {
			has(t, "Conj", d, z.mirrored())
			// How far it is may be no fraction: the squares are held against each other.
			norm := z.norm()
			if code == api.OK && (norm.Cmp(mul(worth(s.Lo), worth(s.Lo))) < 0 || norm.Cmp(mul(worth(s.Hi), worth(s.Hi))) > 0) {
				t.Fatalf("Abs(%s) = %v has not how far %.300s is", tell(a), s, z)
			}
			if d, e := disc.Of(z.number()); e == api.OK {
				has(t, "Of", d, z)
			}
		}
	}
	for i, a := range discs() {
		if i%7 == 0 {
			ask(a)
		}
	}
	for range 300 {
		ask(near(r, r.Intn(2100)-1078))
	}
	l := fracs()
	for i, x := range l {
		z := pair{x, l[(7*i+3)%len(l)]}
		if d, e := disc.Of(z.number()); e == api.OK { // beyond the floats it is refused
			has(t, "Of", d, z)
		}
	}
}

// P7.5: In and Apart go by the discs' numbers; two that are not apart have a number in common.
func TestQuestionsGoByNumbers(t *testing.T) {
	r := rand.New(rand.NewSource(81))
	ins, aparts := 0, 0
	ask := func(a, b api.Disc) {
		t.Helper()
		in, _ := disc.In(a, b)
		apart, _ := disc.Apart(a, b)
		if in && apart {
			t.Fatalf("%s is in %s, and apart", tell(a), tell(b))
		}
		for _, z := range numbers(r, a) {
			if in && z.against(b) >= 0 {
				t.Fatalf("%s is in %s, but %.300s is not within", tell(a), tell(b), z)
			}
			if apart {
				holds(t, b, z, false)
			}
		}
		if in {
			ins++
		}
		if apart {
			aparts++
			return
		}
		// What parts the way between the middles as the radii are has both.
		z := exact(a.C)
		if sum := add(worth(a.R), worth(b.R)); sum.Sign() > 0 {
			z = z.plus(exact(b.C).less(z).scaled(new(big.Rat).Quo(worth(a.R), sum)))
		}
		has(t, "one of two", a, z)
		has(t, "the other of two", b, z)
	}
	few(ask)
	for range 500 {
		n := r.Intn(2000) - 1000
		b := near(r, n)
		a := near(r, n)
		ask(a, b)
		ask(at(a.C, a.R/16), at(b.C, min(farUp(a.C)+farUp(b.C), most)))
		ask(at(b.C, b.R/2), b)
	}
	if ins < 500 || aparts < 300 {
		t.Errorf("%d in, %d apart: too few to tell", ins, aparts)
	}
}

// P7.5: what lies in a disc that is in another one lies in that, too.
func TestWithin(t *testing.T) {
	r := rand.New(rand.NewSource(82))
	for range 300 {
		n := r.Intn(1000) - 500
		a := near(r, n)
		b := at(near(r, n).C, 0)
		b.R = 4*farUp(a.C) + 4*farUp(b.C) + 2*a.R
		if in, e := disc.In(a, b); !in || e != api.OK {
			t.Fatalf("In(%s, %s) = %v, %v", tell(a), tell(b), in, e)
		}
		for _, z := range numbers(r, a) {
			has(t, "the greater one", b, z)
		}
		d, e := disc.Mul(a, a)
		if wide, f := disc.Mul(b, b); e == api.OK && f == api.OK {
			for _, z := range numbers(r, a) {
				has(t, "Mul", d, z.times(z))
				has(t, "Mul of the greater one", wide, z.times(z))
			}
		}
	}
}
