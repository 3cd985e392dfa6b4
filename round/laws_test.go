package round_test

import (
	"math"
	"testing"

	"polestar/round"
)

// straight: what holds of every answer: down is not above up, they are the same or beside each other, and the own answer is one of them.
func straight(t *testing.T, what string, down, up, own float64) {
	t.Helper()
	if math.IsNaN(own) {
		twice(t, what, down, up, own)
		return
	}
	beside := same(down, up) || same(up, round.Next(down, true)) && same(down, round.Next(up, false))
	if !(down <= up) || !beside || !same(own, down) && !same(own, up) {
		t.Fatalf("%s: %v and %v, own answer %v", what, down, up, own)
	}
}

// P4.5
func TestLaws(t *testing.T) {
	pairs(func(a, b float64) {
		for _, c := range twos() {
			down, up := c.do(a, b)
			straight(t, c.name, down, up, c.own(a, b))
			switch c.name {
			case "Add", "Sub":
				if down == 0 && up == 0 {
					break // an exact nought has whatever sign
				}
				low, high := c.do(-a, -b)
				both(t, c.name+" with both signs turned", low, high, -up, -down)
			default:
				low, high := c.do(a, -b)
				both(t, c.name+" with the second sign turned", low, high, -up, -down)
				low, high = c.do(-a, b)
				both(t, c.name+" with the first sign turned", low, high, -up, -down)
			}
			if c.name == "Add" || c.name == "Mul" {
				low, high := c.do(b, a)
				both(t, c.name+" the other way round", low, high, down, up)
			}
		}
		down, up := round.Sqrt(a)
		straight(t, "Sqrt", down, up, math.Sqrt(a))
	})
}
