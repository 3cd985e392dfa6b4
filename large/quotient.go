package large

import "math/bits"

// quotient: x / y without its broken part, and what is left; y is not nought.
func quotient(x, y []uint64) (q, r []uint64) {
	switch {
	case compare(x, y) < 0:
		return nil, x
	case len(y) == 1:
		q = make([]uint64, len(x))
		r = []uint64{byWord(q, x, y[0])}
		return trim(q), trim(r)
	}
	return byWords(x, y)
}

// byWord: x / w goes into q, which has as many words as x and may be x itself; what is left is told.
func byWord(q, x []uint64, w uint64) (rest uint64) {
	for i := len(x) - 1; i >= 0; i-- {
		q[i], rest = bits.Div64(rest, x[i], w)
	}
	return rest
}

// byWords: the same by two words or more, limb by limb of the quotient, as on paper. Both are shifted so far that y's highest bit is 1: so no guess is more than 2 too great.
func byWords(x, y []uint64) (q, r []uint64) {
	n := len(y)
	up := uint(bits.LeadingZeros64(y[n-1]))
	y = shiftUp(y, up)
	rest := make([]uint64, len(x)+1)
	copy(rest, shiftUp(x, up))
	q = make([]uint64, len(x)-n+1)
limbs:
	for i := len(q) - 1; i >= 0; i-- {
		part := rest[i : i+n+1]
		q[i] = guess(part, y)
		missing := takeTimes(part, y, q[i])
		for {
			if missing == 0 {
				continue limbs
			}
			q[i]--
			over := putBack(part[:n], y)
			part[n], over = bits.Add64(part[n], 0, over)
			missing -= over
		}
	}
	return trim(q), shiftDown(trim(rest[:n]), up)
}

// guess: how often y goes into part, which has one word more, by their highest words: right, or somewhat too great.
func guess(part, y []uint64) uint64 {
	n := len(y)
	high, top := part[n], y[n-1]
	if high >= top { // it goes in less than 2^64 times all the same
		return 1<<64 - 1
	}
	q, rest := bits.Div64(high, part[n-1], top)
	for {
		h, l := bits.Mul64(q, y[n-2])
		if h < rest || h == rest && l <= part[n-2] {
			return q
		}
		q--
		var over uint64
		if rest, over = bits.Add64(rest, top, 0); over != 0 {
			return q
		}
	}
}

// takeTimes: y times w is taken from z, which has one word more; what is missing ahead of it is told.
func takeTimes(z, y []uint64, w uint64) (missing uint64) {
	var take uint64
	for i, v := range y {
		high, low := bits.Mul64(v, w)
		low, c := bits.Add64(low, take, 0)
		z[i], missing = bits.Sub64(z[i], low, 0)
		take = high + c + missing
	}
	z[len(y)], missing = bits.Sub64(z[len(y)], take, 0)
	return missing
}
