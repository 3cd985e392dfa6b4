package large

import (
	"math/bits"
	"slices"
)

// common: the greatest number that goes into both, by Euclid's steps. As long as both are long, many steps are worked out by the highest words alone, and done at once (Lehmer).
func common(x, y []uint64) []uint64 {
	if compare(x, y) < 0 {
		x, y = y, x
	}
	x, y = slices.Clone(x), slices.Clone(y)
	for len(y) > 1 {
		s := foresee(highest(x, y))
		if s.q == 0 { // none is sure
			_, rest := byWords(x, y)
			x, y = y, rest
			continue
		}
		x, y = s.do(x, y)
	}
	if len(y) == 0 {
		return x
	}
	return []uint64{commonWord(y[0], byWord(x, x, y[0]))}
}

// commonWord: the same of two words.
func commonWord(a, b uint64) uint64 {
	for b != 0 {
		a, b = b, a%b
	}
	return a
}

// highest: the highest 64 bits of x, which has two words or more, and what y, which is not above it, has at the same places.
func highest(x, y []uint64) (a, b uint64) {
	n := len(x)
	up := bits.LeadingZeros64(x[n-1])
	a = x[n-1]<<up | x[n-2]>>(64-up)
	switch len(y) {
	case n:
		b = y[n-1]<<up | y[n-2]>>(64-up)
	case n - 1:
		b = y[n-2] >> (64 - up)
	}
	return a, b
}

// steps are several of Euclid's steps at once: x and y become p x - q y and s y - r x, or both with the other sign, if their count is odd.
type steps struct {
	p, q, r, s uint64
	odd        bool
}

// foresee: the steps that are the same whatever stands behind the highest bits. A further one is sure, if what is left, and what it differs by from the one ahead, is no less than what the factors can make of the bits behind (Collins). As long as that holds no factor outgrows a word.
func foresee(a, b uint64) steps {
	m := steps{p: 1, s: 1}
	for b != 0 {
		n := a / b
		rest := a % b
		r, s := m.p+n*m.r, m.q+n*m.s
		if rest < s || b-rest < s+m.s {
			break
		}
		a, b = b, rest
		m = steps{m.r, m.s, r, s, !m.odd}
	}
	return m
}

// do: what the steps make of both, in their own memory.
func (m steps) do(x, y []uint64) ([]uint64, []uint64) {
	for len(y) < len(x) {
		y = append(y, 0)
	}
	if m.odd { // -(p x - q y) is q y - p x: the same with all in each other's place
		x, y = y, x
		m.p, m.q, m.r, m.s = m.q, m.p, m.s, m.r
	}
	first, second := combined{more: m.p, less: m.q}, combined{more: m.s, less: m.r}
	for i := range x {
		v, w := x[i], y[i]
		x[i], y[i] = first.word(v, w), second.word(w, v)
	}
	return trim(x), trim(y)
}

// combined is more times one number, less less times another one, told word by word from the lowest on.
type combined struct {
	more, less         uint64
	overMore, overLess uint64
	missing            uint64
}

// word: the next word, of the next words of both.
func (c *combined) word(v, w uint64) uint64 {
	high, low := bits.Mul64(c.more, v)
	low, over := bits.Add64(low, c.overMore, 0)
	c.overMore = high + over
	up, down := bits.Mul64(c.less, w)
	down, over = bits.Add64(down, c.overLess, 0)
	c.overLess = up + over
	low, c.missing = bits.Sub64(low, down, c.missing)
	return low
}
