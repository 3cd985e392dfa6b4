package large

import "polestar/api"

// Element: of an element that may be.
func Element(e api.Element) Matrix {
	does := [...]func(p, q Frac) Matrix{
		api.ElSpace:   func(p, _ Frac) Matrix { return Space(p) },
		api.ElLens:    func(p, _ Frac) Matrix { return Lens(p) },
		api.ElSlab:    func(p, q Frac) Matrix { return Space(p.Quo(q)) },
		api.ElSurface: func(p, q Frac) Matrix { return Lens(p.Mul(q)) },
		api.ElFlip:    func(Frac, Frac) Matrix { return one().Neg() },
	}
	return does[e.Kind](FromFrac(e.P), FromFrac(e.Q))
}

// Bench: of elements that may be, the first one met first.
func Bench(l []api.Element) Matrix {
	each := make([]Matrix, len(l))
	for i, e := range l {
		each[i] = Element(e)
	}
	return Together(each, one(), func(m, n Matrix) Matrix { return n.Mul(m) })
}

// Together: all of a list, made one of. Halves are made first, so that numbers of like size meet: that costs least where they are great.
func Together[T any](l []T, none T, both func(x, y T) T) T {
	half := len(l) / 2
	switch len(l) {
	case 0:
		return none
	case 1:
		return l[0]
	}
	return both(Together(l[:half], none, both), Together(l[half:], none, both))
}

// one: of no elements.
func one() Matrix { return Lens(Whole(0)) }
