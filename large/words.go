package large

import (
	"cmp"
	"math/bits"
)

// Here sizes are lists of words, the lowest first, the last one not 0. A list that comes in is changed by those alone that say so, as numbers share theirs.

// trim: without the noughts at the end.
func trim(x []uint64) []uint64 {
	for len(x) > 0 && x[len(x)-1] == 0 {
		x = x[:len(x)-1]
	}
	return x
}

// length: how many binary digits.
func length(x []uint64) int {
	if len(x) == 0 {
		return 0
	}
	return 64*(len(x)-1) + bits.Len64(x[len(x)-1])
}

// compare: -1, 0 or 1.
func compare(x, y []uint64) int {
	c := cmp.Compare(len(x), len(y))
	for i := len(x) - 1; c == 0 && i >= 0; i-- {
		c = cmp.Compare(x[i], y[i])
	}
	return c
}

func sum(x, y []uint64) []uint64 {
	if len(x) < len(y) {
		x, y = y, x
	}
	z := make([]uint64, len(x)+1)
	copy(z, x)
	carry(z[len(y):], putBack(z[:len(y)], y))
	return trim(z)
}

// difference: x less y, which is not above x.
func difference(x, y []uint64) []uint64 {
	z := make([]uint64, len(x))
	var less uint64
	for i := range z {
		var w uint64
		if i < len(y) {
			w = y[i]
		}
		z[i], less = bits.Sub64(x[i], w, less)
	}
	return trim(z)
}

// putBack: y is added to z, which has as many words; what goes beyond is told.
func putBack(z, y []uint64) (over uint64) {
	for i, w := range y {
		z[i], over = bits.Add64(z[i], w, over)
	}
	return over
}

// carry: 0 or 1 is added to z, which has room for it.
func carry(z []uint64, over uint64) {
	for i := 0; over != 0; i++ {
		z[i], over = bits.Add64(z[i], 0, over)
	}
}

// shiftUp: x 2^n.
func shiftUp(x []uint64, n uint) []uint64 {
	if len(x) == 0 {
		return nil
	}
	whole, part := int(n/64), n%64
	z := make([]uint64, len(x)+whole+1)
	for i, w := range x {
		z[whole+i] |= w << part
		z[whole+i+1] = w >> (64 - part) // a shift by 64 leaves nothing
	}
	return trim(z)
}

// shiftDown: x / 2^n, without its broken part.
func shiftDown(x []uint64, n uint) []uint64 {
	if n/64 >= uint(len(x)) {
		return nil
	}
	x, part := x[n/64:], n%64
	z := make([]uint64, len(x))
	for i, w := range x {
		z[i] = w >> part
		if i > 0 {
			z[i-1] |= w << (64 - part)
		}
	}
	return trim(z)
}

func product(x, y []uint64) []uint64 {
	if len(x) == 0 || len(y) == 0 {
		return nil
	}
	z := make([]uint64, len(x)+len(y))
	for i, w := range y {
		z[i+len(x)] = addTimes(z[i:i+len(x)], x, w)
	}
	return trim(z)
}

// addTimes: x times w is added to z, which has as many words as x; what goes beyond is told.
func addTimes(z, x []uint64, w uint64) (over uint64) {
	z = z[:len(x)]
	for i, v := range x {
		high, low := bits.Mul64(v, w)
		low, c := bits.Add64(low, z[i], 0)
		high += c
		z[i], c = bits.Add64(low, over, 0)
		over = high + c
	}
	return over
}
