package disc_test

import (
	"math"
	"math/big"

	"polestar/api"
	"polestar/cplx"
)

// What the chapter's table says, reckoned by the library's numbers, which are rounded down and up here.

func finite(l ...float64) bool {
	for _, v := range l {
		if v != v || math.IsInf(v, 0) {
			return false
		}
	}
	return true
}

// sides: the floats on both sides of a number, or twice the one that it is.
func sides(z *big.Float) (down, up float64) {
	v, off := z.Float64()
	switch off {
	case big.Below:
		return v, math.Nextafter(v, infinity)
	case big.Above:
		return math.Nextafter(v, -infinity), v
	}
	return v, v
}

// both: what is reckoned with so many bits that it is exact, or lies between the same two floats; where nothing is to be rounded, own.
func both(do func(z, x, y *big.Float) *big.Float, bits uint, x, y, own float64) (down, up float64) {
	if !finite(x, y) {
		return own, own
	}
	z := do(new(big.Float).SetPrec(bits), big.NewFloat(x), big.NewFloat(y))
	if z.Sign() == 0 {
		return own, own
	}
	return sides(z)
}

func sums(x, y float64) (down, up float64)     { return both((*big.Float).Add, 2200, x, y, x+y) }
func products(x, y float64) (down, up float64) { return both((*big.Float).Mul, 106, x, y, x*y) }

func quotients(x, y float64) (down, up float64) {
	if y == 0 {
		return x / y, x / y
	}
	return both((*big.Float).Quo, 200, x, y, x/y)
}

func low(down, _ float64) float64 { return down }
func high(_, up float64) float64  { return up }

func addUp(x, y float64) float64   { return high(sums(x, y)) }
func addDown(x, y float64) float64 { return low(sums(x, y)) }
func mulUp(x, y float64) float64   { return high(products(x, y)) }
func mulDown(x, y float64) float64 { return low(products(x, y)) }

// far: how far a number is from nought, on both sides.
func far(z complex128) (down, up float64) {
	x, y := math.Abs(real(z)), math.Abs(imag(z))
	switch {
	case math.IsInf(x, 1) || math.IsInf(y, 1):
		return infinity, infinity
	case !finite(x, y):
		return none, none
	}
	square := func(v float64) *big.Float {
		return new(big.Float).SetPrec(106).Mul(big.NewFloat(v), big.NewFloat(v))
	}
	all := new(big.Float).SetPrec(4400).Add(square(x), square(y))
	down = min(math.Hypot(x, y), most)
	for square(down).Cmp(all) > 0 {
		down = math.Nextafter(down, 0)
	}
	for {
		up = math.Nextafter(down, infinity)
		if math.IsInf(up, 1) || square(up).Cmp(all) > 0 {
			break
		}
		down = up
	}
	if square(down).Cmp(all) == 0 {
		return down, down
	}
	return down, up
}

func farUp(z complex128) float64   { return high(far(z)) }
func farDown(z complex128) float64 { return low(far(z)) }

// lost: what a finite sum has lost.
func lost(x, y float64) float64 {
	if !finite(x + y) {
		return 0
	}
	z := new(big.Float).SetPrec(2200).Add(big.NewFloat(x), big.NewFloat(y))
	v, _ := z.Sub(z, big.NewFloat(x+y)).Float64()
	return v
}

// told: the disc of what the table says, or ErrInf.
func told(c complex128, r float64) (api.Disc, api.Errno) {
	if !finite(real(c), imag(c), r) {
		return api.Disc{}, api.ErrInf
	}
	plain := func(v float64) float64 {
		if v == 0 {
			return 0
		}
		return v
	}
	return at(complex(plain(real(c)), plain(imag(c))), plain(r)), api.OK
}

func wantAdd(a, b api.Disc) (api.Disc, api.Errno) {
	ar, ai, br, bi := real(a.C), imag(a.C), real(b.C), imag(b.C)
	return told(complex(ar+br, ai+bi), addUp(addUp(a.R, b.R), farUp(complex(lost(ar, br), lost(ai, bi)))))
}

func wantSub(a, b api.Disc) (api.Disc, api.Errno) {
	ar, ai, br, bi := real(a.C), imag(a.C), real(b.C), imag(b.C)
	return told(complex(ar-br, ai-bi), addUp(addUp(a.R, b.R), farUp(complex(lost(ar, -br), lost(ai, -bi)))))
}

// greater: the greater one of two floats; no number, if one is none.
func greater(x, y float64) float64 {
	switch {
	case x != x || y != y:
		return none
	case x > y:
		return x
	}
	return y
}

func wantMul(a, b api.Disc) (api.Disc, api.Errno) {
	ar, ai, br, bi := real(a.C), imag(a.C), real(b.C), imag(b.C)
	c := cplx.Mul(a.C, b.C)
	x := greater(addUp(real(c), -addDown(mulDown(ar, br), -mulUp(ai, bi))), addUp(addUp(mulUp(ar, br), -mulDown(ai, bi)), -real(c)))
	y := greater(addUp(imag(c), -addDown(mulDown(ar, bi), mulDown(ai, br))), addUp(addUp(mulUp(ar, bi), mulUp(ai, br)), -imag(c)))
	r := addUp(addUp(mulUp(farUp(a.C), b.R), mulUp(farUp(b.C), a.R)), mulUp(a.R, b.R))
	return told(c, addUp(r, farUp(complex(x, y))))
}

func wantQuo(a, b api.Disc) (api.Disc, api.Errno) {
	if !(farDown(b.C) > b.R) {
		return api.Disc{}, api.ErrZero
	}
	c := cplx.Quo(a.C, b.C)
	if !finite(real(c), imag(c)) {
		return api.Disc{}, api.ErrInf
	}
	back, e := wantMul(at(c, 0), at(b.C, 0))
	if e != api.OK {
		return api.Disc{}, e
	}
	s, e := wantSub(at(a.C, 0), back)
	if e != api.OK {
		return api.Disc{}, e
	}
	top := addUp(addUp(addUp(farUp(s.C), s.R), a.R), mulUp(farUp(c), b.R))
	return told(c, high(quotients(top, addDown(farDown(b.C), -b.R))))
}
