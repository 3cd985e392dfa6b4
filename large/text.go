package large

import (
	"math/bits"
	"slices"
	"strconv"
	"strings"
)

// A word holds so many digits at most; ten to the power of that.
const (
	wordDigits = 19
	wordTens   = 10_000_000_000_000_000_000
)

// Text: its digits, with a - ahead of what is below nought.
func (x Int) Text() string {
	var groups []uint64 // the lowest first
	for rest := slices.Clone(x.size); len(rest) > 0; rest = trim(rest) {
		groups = append(groups, byWord(rest, rest, wordTens))
	}
	if len(groups) == 0 {
		return "0"
	}
	var b strings.Builder
	if x.neg {
		b.WriteByte('-')
	}
	slices.Reverse(groups)
	b.WriteString(strconv.FormatUint(groups[0], 10))
	for _, group := range groups[1:] {
		digits := strconv.FormatUint(group, 10)
		b.WriteString(strings.Repeat("0", wordDigits-len(digits)))
		b.WriteString(digits)
	}
	return b.String()
}

// Parse: the number that Text tells so; false, if there is none.
func Parse(s string) (Int, bool) {
	digits, neg := strings.CutPrefix(s, "-")
	if !isSize(digits) || neg && digits == "0" {
		return Int{}, false
	}
	return made(neg, sizeOf(digits)), true
}

// isSize: is it digits alone, without a nought ahead?
func isSize(digits string) bool {
	if digits == "" || digits[0] == '0' && digits != "0" {
		return false
	}
	for i := range len(digits) {
		if digits[i] < '0' || digits[i] > '9' {
			return false
		}
	}
	return true
}

// sizeOf: what the digits tell.
func sizeOf(digits string) []uint64 {
	var x []uint64
	for len(digits) > 0 {
		n := (len(digits)-1)%wordDigits + 1 // the first group may be short
		var group, tens uint64 = 0, 1
		for i := range n {
			group = 10*group + uint64(digits[i]-'0')
			tens *= 10
		}
		x = timesAnd(x, tens, group)
		digits = digits[n:]
	}
	return trim(x)
}

// timesAnd: x times w, and v more, in place.
func timesAnd(x []uint64, w, v uint64) []uint64 {
	for i := range x {
		high, low := bits.Mul64(x[i], w)
		var c uint64
		x[i], c = bits.Add64(low, v, 0)
		v = high + c
	}
	if v == 0 {
		return x
	}
	return append(x, v)
}
