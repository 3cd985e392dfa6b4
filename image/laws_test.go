package image_test

import (
	"math/big"
	"math/rand"
	"testing"

	"polestar/api"
	"polestar/bench"
	"polestar/frac"
	"polestar/image"
	"polestar/ray"
)

// sure: an answer that must not be refused.
func sure[T any](x T, e api.Errno) T {
	if e != api.OK {
		panic(e)
	}
	return x
}

// space: the matrix of a space of any length, below nought too.
func space(length api.Frac) api.Matrix { return made(rats{rat(1), worth(length), rat(0), rat(1)}) }

// between: the matrix with a space ahead of it and one behind it.
func between(ahead api.Frac, m api.Matrix, behind api.Frac) api.Matrix {
	return sure(ray.Mul(space(behind), sure(ray.Mul(m, space(ahead)))))
}

// holds: is it this matrix?
func holds(t *testing.T, what string, m api.Matrix, want ...*big.Rat) {
	t.Helper()
	is(t, what, []api.Frac{m.A, m.B, m.C, m.D}, api.OK, want...)
}

// small: matrices whose answers are not refused by their size.
func small(ask func(r *rand.Rand, m api.Matrix)) {
	r := rand.New(rand.NewSource(113))
	for i := range 1500 {
		ask(r, someMatrix(r, 2+i%90))
	}
	ask(r, someMatrix(r, 3000))
}

// P11.6: from the thing to its image the matrix is times, 0, C, 1 / times: all rays of one point of it meet there.
func TestThingAndImage(t *testing.T) {
	small(func(r *rand.Rand, m api.Matrix) {
		ahead := of(some(r, 40))
		behind, times, e := image.Image(m, ahead)
		if e == api.ErrZero {
			return
		}
		all := between(ahead, m, behind)
		holds(t, "from the thing to its image", all, worth(times), rat(0), worth(m.C), inverse(worth(times)))
		y := of(some(r, 20))
		for _, u := range []*big.Rat{rat(0), rat(1), some(r, 20)} {
			out := sure(ray.Through(all, api.Ray{Y: y, U: of(u)}))
			is(t, "the height of a ray in the image", []api.Frac{out.Y}, e, worth(sure(frac.Mul(times, y))))
		}
	})
}

// P11.6: the image of an image, seen from behind, is the thing.
func TestImageAndBack(t *testing.T) {
	small(func(r *rand.Rand, m api.Matrix) {
		ahead := some(r, 40)
		behind, times, e := image.Image(m, of(ahead))
		if e == api.ErrZero {
			return
		}
		got, e := imaged(sure(ray.Mirror(m)), behind)
		is(t, "the image of the image", got, e, ahead, inverse(worth(times)))
	})
}

// P11.6: between the principal planes there is a lens alone, of Power's power.
func TestPlanes(t *testing.T) {
	none := 0
	small(func(r *rand.Rand, m api.Matrix) {
		front, back, e := image.Planes(m)
		lens := sure(image.Power(m))
		if frac.Sign(lens) == 0 {
			refused(t, "Planes of "+toldMatrix(m), []api.Frac{front, back}, e, api.ErrZero)
			none++
			return
		}
		want := worths(sure(bench.One(api.Element{Kind: api.ElLens, P: lens, Q: num("0")})))
		holds(t, "between the principal planes", between(of(minus(worth(front))), m, back), want...)
		if e != api.OK {
			t.Fatalf("Planes of %s: %v", toldMatrix(m), e)
		}
	})
	if none == 0 {
		t.Fatal("C was never nought")
	}
}

// P11.6: Sharp just if the image of a thing just here is just there, and then not refused.
func TestSharp(t *testing.T) {
	found := 0
	small(func(r *rand.Rand, m api.Matrix) {
		behind, times, e := image.Image(m, num("0"))
		at := e == api.OK && frac.Sign(behind) == 0
		if sure(image.Sharp(m)) != at {
			t.Fatalf("Sharp of %s = %v, Image of 0 = %s %s, %v", toldMatrix(m), !at, told(behind), told(times), e)
		}
		if at {
			found++
		}
		ahead := of(some(r, 30))
		if behind, _, e := image.Image(m, ahead); e == api.OK && !sure(image.Sharp(between(ahead, m, behind))) {
			t.Fatalf("from a thing %s ahead of %s to its image: not sharp", told(ahead), toldMatrix(m))
		}
	})
	if found == 0 {
		t.Fatal("nothing was sharp")
	}
}

// P11.5: the ray from the middle with that steepness leaves the bench at the opening's height, or as far below; one that is steeper, farther.
func TestRayThatPasses(t *testing.T) {
	small(func(r *rand.Rand, m api.Matrix) {
		opening := size(some(r, 30))
		steepness, e := image.Stop(m, of(opening))
		if frac.Sign(m.B) == 0 {
			refused(t, "Stop of "+toldMatrix(m), []api.Frac{steepness}, e, api.ErrZero)
			return
		}
		height := func(u *big.Rat) *big.Rat {
			return size(worth(sure(ray.Through(m, api.Ray{Y: num("0"), U: of(u)})).Y))
		}
		most := worth(sure(steepness, e))
		if most.Sign() < 0 || height(most).Cmp(opening) != 0 || height(minus(most)).Cmp(opening) != 0 || height(plus(most, big.NewRat(1, 1000))).Cmp(opening) <= 0 {
			t.Fatalf("Stop of %s and %s = %s", toldMatrix(m), opening.RatString(), most.RatString())
		}
	})
}

// P11.6: of benches, the spaces standing in them as elements.
func TestBenches(t *testing.T) {
	lens := func(p string) api.Element { return api.Element{Kind: api.ElLens, P: num(p), Q: num("0")} }
	gap := func(p api.Frac) api.Element { return api.Element{Kind: api.ElSpace, P: p, Q: num("0")} }
	for _, ahead := range []string{"2", "3", "7/2", "10"} {
		l := []api.Element{lens("1"), gap(num("5")), lens("2/3")}
		behind, times, e := image.Image(sure(bench.Matrix(l)), num(ahead))
		if e != api.OK || frac.Sign(behind) <= 0 {
			t.Fatalf("Image of %s = %s, %v", ahead, told(behind), e)
		}
		l = append(append([]api.Element{gap(num(ahead))}, l...), gap(behind))
		m := sure(bench.Matrix(l))
		is(t, "a bench with its spaces", []api.Frac{m.A, m.B, m.D}, e, worth(times), rat(0), inverse(worth(times)))
	}
}
