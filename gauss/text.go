package gauss

import (
	"strings"

	"polestar/api"
	"polestar/frac"
)

// Text: as text. (P3.6)
func Text(z api.Gauss) (string, api.Errno) {
	re, im, e := both(z.Re, z.Im, frac.Text)
	if e != api.OK {
		return "", e
	}
	s := joined(re, im)
	if len(s) > api.MaxText {
		return "", api.ErrLimit
	}
	return s, api.OK
}

// Parse: the number that Text tells so. (P3.6)
func Parse(s string) (api.Gauss, api.Errno) {
	if len(s) > api.MaxText {
		return api.Gauss{}, api.ErrLimit
	}
	re, im, ok := parted(s)
	if !ok {
		return api.Gauss{}, api.ErrForm
	}
	return made(both(re, im, frac.Parse))
}

// joined: the text of a number, of the texts of its parts as fractions.
func joined(re, im string) string {
	if im == "0" {
		return re
	}
	second := im + "i"
	if im == "1" || im == "-1" {
		second = strings.TrimSuffix(im, "1") + "i"
	}
	switch {
	case re == "0":
		return second
	case im[0] == '-':
		return re + second
	}
	return re + "+" + second
}

// parted: the texts of both parts as fractions, if there are such; false: a part is told that is left out, or a 1 or a + that is.
func parted(s string) (re, im string, ok bool) {
	number, second := strings.CutSuffix(s, "i")
	if !second {
		return s, "0", true
	}
	at := max(0, strings.LastIndexAny(number, "+-"))
	re, im = number[:at], number[at:]
	switch re {
	case "":
		re = "0"
	case "0":
		return "", "", false
	default:
		im = strings.TrimPrefix(im, "+")
	}
	switch im {
	case "0", "1", "-1":
		return "", "", false
	case "", "-":
		im += "1"
	}
	return re, im, true
}
