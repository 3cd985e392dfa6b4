package orbit

import (
	"iter"

	"polestar/api"
	"polestar/large"
)

// Behind each trip a ray is the trace times what it was, less what it was a trip ago. If the trace is no whole number, the exact fractions become longer with every trip; with a long one they are too long to be gone through one by one. So rays are told here in whole numbers of small parts, with a bound beside them for how far these are off.

// near is a ray, told in parts of which 1 has so many.
type near struct {
	y, u side
	one  large.Int
	off  large.Int // behind n trips no number is off by more than n + 1 times this
}

// side is a height, or a steepness, and what it is a trip later.
type side struct{ now, next large.Int }

// rays: near the ray ahead of the first trip, behind it, behind the second one, and so on as far as MaxTrips, with so many bits behind the point.
func (p path) rays(bits int) iter.Seq2[int, near] {
	first, step := p.begin(bits)
	return func(yield func(int, near) bool) {
		at := first
		for n := range api.MaxTrips + 1 {
			if !yield(n, at) {
				return
			}
			at = step(at)
		}
	}
}

// begin: the first ray, and what makes a ray behind a trip of the one ahead of it.
func (p path) begin(bits int) (first near, step func(at near) near) {
	t := p.trace()
	if t.Den().Cmp(large.Of(1)) == 0 { // in parts in which both rays are whole, so are all
		one := large.Common(p.start.Y, p.next.Y, p.start.U, p.next.U)
		return p.first(one, large.Of(0)), stepOf(t, func(at near) large.Int { return at.off })
	}
	grow := growth(t)
	if t.Bits() > bits {
		t = t.Above(bits)
	}
	return p.first(large.Of(1).Shift(bits), large.Of(2)), stepOf(t, func(at near) large.Int {
		// That the trace is cut off makes less than one part for each 1 that the ray has, that the product is cut off makes less than one more; and with each trip all this grows.
		return grow.Times(at.off).Add(at.size().Shift(-bits)).Add(large.Of(3))
	})
}

// first: the ray ahead of the first trip.
func (p path) first(one, off large.Int) near {
	of := func(now, next large.Frac) side { return side{now.Times(one), next.Times(one)} }
	return near{of(p.start.Y, p.next.Y), of(p.start.U, p.next.U), one, off}
}

// stepOf: what a trip makes of a ray, t being the trace.
func stepOf(t large.Frac, lose func(at near) large.Int) func(at near) near {
	later := func(s side) side { return side{s.next, t.Times(s.next).Sub(s.now)} }
	return func(at near) near { return near{later(at.y), later(at.u), at.one, lose(at)} }
}

// growth: no trip makes what is off more times as great: the greater root of x x - |t| x + 1, rounded up; 1, if there is none.
func growth(t large.Frac) large.Frac {
	const bits = 32
	one := large.Of(1).Shift(bits)
	size := t.Abs().Times(one).Add(large.Of(1))
	rest := size.Mul(size).Sub(one.Mul(one).Shift(2))
	if rest.Sign() < 0 {
		return large.Whole(1)
	}
	return large.Ratio(size.Add(rest.Root()).Add(large.Of(2)), one.Shift(1))
}

// size: the greater number, without a sign.
func (at near) size() large.Int {
	y, u := at.y.now.Abs(), at.u.now.Abs()
	if y.Cmp(u) < 0 {
		return u
	}
	return y
}

// farther: is the ray that this one is near, behind n trips, farther than 1, and is that sure?
func (at near) farther(n int) (far, sure bool) {
	over, off := at.size().Sub(at.one), at.off.Mul(large.Of(int64(n)+1))
	switch {
	case over.Cmp(off) > 0:
		return true, true
	case over.Add(off).Sign() <= 0:
		return false, true
	}
	return false, false
}
