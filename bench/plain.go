package bench

import (
	"polestar/api"
	"polestar/large"
)

// plain is a space, a lens or a flip, as no other elements are needed.
type plain struct {
	kind api.ElementKind
	p    large.Frac
}

// plainly: the one that has the matrix of an element.
func plainly(m large.Matrix) plain {
	switch {
	case m.A.Sign() < 0:
		return plain{api.ElFlip, large.Whole(0)}
	case m.B.Sign() != 0:
		return plain{api.ElSpace, m.B}
	}
	return plain{api.ElLens, m.C.Neg()}
}

// empty: does it nothing?
func (x plain) empty() bool { return x.kind != api.ElFlip && x.p.Sign() == 0 }

// fit: as the layers hand them on, or ErrLimit.
func fit(l []plain) ([]api.Element, api.Errno) {
	answer := make([]api.Element, len(l))
	for i, x := range l {
		p, e := x.p.Fit()
		if e != api.OK {
			return nil, e
		}
		answer[i] = api.Element{Kind: x.kind, P: p, Q: large.Whole(0).Frac()}
	}
	return answer, api.OK
}

// parts: by the chapter's table, empty lenses too.
func parts(m large.Matrix) []plain {
	flip := plain{api.ElFlip, large.Whole(0)}
	one := large.Whole(1)
	switch b := m.B.Sign(); {
	case b > 0:
		first, last := one.Sub(m.A).Quo(m.B), one.Sub(m.D).Quo(m.B)
		return []plain{{api.ElLens, first}, {api.ElSpace, m.B}, {api.ElLens, last}}
	case b < 0:
		return append([]plain{flip}, parts(m.Neg())...)
	case m.A.Cmp(one) == 0:
		return []plain{{api.ElLens, m.C.Neg()}}
	case m.A.Cmp(one.Neg()) == 0:
		return []plain{flip, {api.ElLens, m.C}}
	case m.A.Sign() < 0:
		return append([]plain{{api.ElSpace, one}}, parts(m.Mul(large.Space(one.Neg())))...)
	}
	return append([]plain{flip}, parts(m.Neg())...)
}
