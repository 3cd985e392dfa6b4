package large

import "polestar/api"

// Ray is how high it is and how steep; Matrix turns rays. Their fractions are of any size.
type (
	Ray    struct{ Y, U Frac }
	Matrix struct{ A, B, C, D Frac }
)

// Space: of a space of a length, which may be below nought.
func Space(length Frac) Matrix { return Matrix{A: Whole(1), B: length, C: Whole(0), D: Whole(1)} }

// Lens: of a lens of a power.
func Lens(power Frac) Matrix { return Matrix{A: Whole(1), B: Whole(0), C: power.Neg(), D: Whole(1)} }

// FromRay: a ray that may be.
func FromRay(r api.Ray) Ray { return Ray{FromFrac(r.Y), FromFrac(r.U)} }

// FromMatrix: a matrix that may be.
func FromMatrix(m api.Matrix) Matrix {
	return Matrix{FromFrac(m.A), FromFrac(m.B), FromFrac(m.C), FromFrac(m.D)}
}

// Fit: as the layers hand it on, or ErrLimit.
func (r Ray) Fit() (api.Ray, api.Errno) {
	l, e := fit(r.Y, r.U)
	if e != api.OK {
		return api.Ray{}, e
	}
	return api.Ray{Y: l[0], U: l[1]}, api.OK
}

// Fit: as the layers hand it on, or ErrLimit.
func (m Matrix) Fit() (api.Matrix, api.Errno) {
	l, e := fit(m.A, m.B, m.C, m.D)
	if e != api.OK {
		return api.Matrix{}, e
	}
	return api.Matrix{A: l[0], B: l[1], C: l[2], D: l[3]}, api.OK
}

// Mul: m behind n.
func (m Matrix) Mul(n Matrix) Matrix {
	left, right := m.Through(Ray{n.A, n.C}), m.Through(Ray{n.B, n.D})
	return Matrix{left.Y, right.Y, left.U, right.U}
}

// Neg: with the other sign, as a flip makes it.
func (m Matrix) Neg() Matrix { return Matrix{m.A.Neg(), m.B.Neg(), m.C.Neg(), m.D.Neg()} }

// Mirror: of the same the other way round.
func (m Matrix) Mirror() Matrix { return Matrix{m.D, m.B, m.C, m.A} }

// Through: what becomes of a ray.
func (m Matrix) Through(r Ray) Ray {
	return Ray{m.A.Mul(r.Y).Add(m.B.Mul(r.U)), m.C.Mul(r.Y).Add(m.D.Mul(r.U))}
}

// Cross: what two rays keep: Y of the one times U of the other less the other way round.
func (r Ray) Cross(s Ray) Frac { return r.Y.Mul(s.U).Sub(s.Y.Mul(r.U)) }

// fit: all of these as the layers hand them on, or ErrLimit, if one of them does not fit.
func fit(l ...Frac) ([]api.Frac, api.Errno) {
	answer := make([]api.Frac, len(l))
	for i, x := range l {
		var e api.Errno
		if answer[i], e = x.Fit(); e != api.OK {
			return nil, e
		}
	}
	return answer, api.OK
}
