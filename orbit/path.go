package orbit

import (
	"polestar/api"
	"polestar/large"
)

// path is that of a ray through a cavity.
type path struct {
	trip        large.Matrix
	start, next large.Ray  // ahead of the first trip and behind it
	form        large.Frac // their cross
}

func pathOf(trip large.Matrix, start large.Ray) path {
	next := trip.Through(start)
	return path{trip, start, next, start.Cross(next)}
}

// trace: of the trip.
func (p path) trace() large.Frac { return p.trip.A.Add(p.trip.D) }

// nought: is it the ray of nought?
func (p path) nought() bool { return size(p.start).Sign() == 0 }

// shrinks: is it thrown back on its own line, and no farther out? Then it never comes farther than it was.
func (p path) shrinks() bool {
	return p.form.Sign() == 0 && p.next.Y.Abs().Cmp(p.start.Y.Abs()) <= 0 && p.next.U.Abs().Cmp(p.start.U.Abs()) <= 0
}

// stays: does it, in a cavity of this Kind?
func (p path) stays(kind api.Stability) bool {
	switch kind {
	case api.StStable, api.StNeutral:
		return true
	case api.StEdge:
		return p.form.Sign() == 0
	}
	return p.shrinks()
}

// bound: what the square of its height never is above, if it stays.
func (p path) bound(kind api.Stability) large.Frac {
	if kind != api.StStable {
		return p.start.Y.Mul(p.start.Y)
	}
	four, t := large.Whole(4), p.trace()
	return four.Neg().Mul(p.trip.B).Mul(p.form).Quo(four.Sub(t.Mul(t)))
}

// trips: the matrix of n trips; ErrLimit, if the ray, which is not nought, is surely beyond the limit behind them.
func (p path) trips(n int) (large.Matrix, api.Errno) {
	// The cross of the ray and of what comes out is the form times U(n - 1), Chebyshev's number at half the trace. So, if both rays are within the limit, that number has no more bits than their four fractions and the form have together. If the form is nought, a trip makes the ray u / v times as great: then u and v to the power of n have no more bits than two of the fractions together, and U(n - 1) no more than both powers. A few bits more are for the difference in a cross, and for n as a factor.
	const limbs = 4 * api.MaxLimbs
	all, fits := p.trip.Power(n, 32*limbs+p.form.Bits()+16)
	if !fits {
		return large.Matrix{}, api.ErrLimit
	}
	return all, api.OK
}

// size: the greater one of height and steepness, without their signs.
func size(r large.Ray) large.Frac {
	y, u := r.Y.Abs(), r.U.Abs()
	if y.Cmp(u) < 0 {
		return u
	}
	return y
}
