package image_test

import (
	"math/big"
	"math/rand"
	"testing"

	"polestar/api"
)

// The promises in the library's fractions; none, where there is nothing to divide by.

func wantPlanes(m rats) rats {
	if m[2].Sign() == 0 {
		return nil
	}
	return rats{over(less(m[3], rat(1)), m[2]), over(less(rat(1), m[0]), m[2])}
}

func wantImage(m rats, ahead *big.Rat) rats {
	d := plus(times(m[2], ahead), m[3])
	if d.Sign() == 0 {
		return nil
	}
	return rats{over(minus(plus(times(m[0], ahead), m[1])), d), inverse(d)}
}

func wantStop(m rats, opening *big.Rat) rats {
	if m[1].Sign() == 0 {
		return nil
	}
	return rats{over(opening, size(m[1]))}
}

// P11.1, P11.2, P11.4: against the library's fractions.
func TestOfMatrices(t *testing.T) {
	for _, m := range matrices() {
		l, none := worths(m), api.Frac{}
		got, e := power(m, none)
		is(t, "Power of "+toldMatrix(m), got, e, minus(l[2]))
		got, e = planes(m, none)
		fits(t, "Planes of "+toldMatrix(m), got, e, wantPlanes(l))
		got, e = sharp(m, none)
		if l[1].Sign() == 0 {
			is(t, "Sharp of "+toldMatrix(m), got, e, rat(1))
		} else {
			refused(t, "Sharp of "+toldMatrix(m)+", false", got, e, api.OK)
		}
	}
}

// aheads: things near and far, ahead of a bench and behind its beginning, where there is no image and where it is at the bench's end.
func aheads(r *rand.Rand, m rats) rats {
	l := rats{rat(0), rat(1), rat(-1), some(r, 5), some(r, 90), most(), inverse(minus(most()))}
	if m[2].Sign() != 0 {
		l = append(l, minus(over(m[3], m[2])))
	}
	if m[0].Sign() != 0 {
		l = append(l, minus(over(m[1], m[0])))
	}
	var small rats
	for _, x := range l {
		if !tooGreat(x) {
			small = append(small, x)
		}
	}
	return small
}

// P11.3: against the library's fractions.
func TestImage(t *testing.T) {
	r := rand.New(rand.NewSource(111))
	none := 0
	for _, m := range matrices() {
		l := worths(m)
		for _, ahead := range aheads(r, l) {
			want := wantImage(l, ahead)
			got, e := imaged(m, of(ahead))
			fits(t, "Image of "+toldMatrix(m)+" and "+told(of(ahead)), got, e, want)
			if want == nil {
				none++
			}
		}
	}
	if none < 100 {
		t.Fatalf("no image was asked for %d times alone", none)
	}
}

// P11.5: against the library's fractions.
func TestStop(t *testing.T) {
	r := rand.New(rand.NewSource(112))
	for _, m := range matrices() {
		l := worths(m)
		for _, opening := range (rats{rat(0), rat(1), size(some(r, 5)), size(some(r, 90)), size(l[1]), most(), inverse(most())}) {
			got, e := stop(m, of(opening))
			fits(t, "Stop of "+toldMatrix(m)+" and "+told(of(opening)), got, e, wantStop(l, opening))
		}
	}
}
