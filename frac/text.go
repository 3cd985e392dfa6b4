package frac

import (
	"strings"

	"polestar/api"
	"polestar/large"
	"polestar/whole"
)

// Text: as text. (P2.6)
func Text(x api.Frac) (string, api.Errno) {
	if e := Check(x); e != api.OK {
		return "", e
	}
	s, _ := whole.Text(x.Num)
	if den, _ := whole.Text(x.Den); den != "1" {
		s += "/" + den
	}
	if len(s) > api.MaxText { // with as few limbs as may be none is so long, but both limits are api's to set
		return "", api.ErrLimit
	}
	return s, api.OK
}

// Parse: the fraction that Text tells so. (P2.6)
func Parse(s string) (api.Frac, api.Errno) {
	if len(s) > api.MaxText {
		return api.Frac{}, api.ErrLimit
	}
	x, ok := parse(s)
	if !ok {
		return api.Frac{}, api.ErrForm
	}
	return x.Fit()
}

// parse: the fraction of whatever size whose text it is; false: there is none.
func parse(s string) (large.Frac, bool) {
	first, second, broken := strings.Cut(s, "/")
	num, ok := large.Parse(first)
	one := large.Of(1)
	if !broken {
		return large.Ratio(num, one), ok
	}
	den, okToo := large.Parse(second)
	if !ok || !okToo || den.Cmp(one) <= 0 {
		return large.Frac{}, false
	}
	x := large.Ratio(num, den)
	return x, x.Den().Cmp(den) == 0
}
