package whole_test

import (
	"math/rand"
	"slices"
	"testing"

	"polestar/api"
	"polestar/whole"
)

// got: an answer that is not refused.
func got(t *testing.T, x api.Int, e api.Errno) api.Int {
	t.Helper()
	if e != api.OK {
		t.Fatalf("refused: %v", e)
	}
	return x
}

// laws are asked of three numbers at a time.
type laws struct{ t *testing.T }

func (l laws) add(x, y api.Int) api.Int { s, e := whole.Add(x, y); return got(l.t, s, e) }
func (l laws) sub(x, y api.Int) api.Int { s, e := whole.Sub(x, y); return got(l.t, s, e) }
func (l laws) mul(x, y api.Int) api.Int { s, e := whole.Mul(x, y); return got(l.t, s, e) }
func (l laws) gcd(x, y api.Int) api.Int { s, e := whole.GCD(x, y); return got(l.t, s, e) }
func (l laws) quo(x, y api.Int) (api.Int, api.Int) {
	q, r, e := whole.QuoRem(x, y)
	return got(l.t, q, e), r
}

func (l laws) hold(what string, x, y api.Int) {
	l.t.Helper()
	if !same(x, y) {
		l.t.Fatalf("%s: %v is not %v", what, x, y)
	}
}

// P1.7: sums and products.
func (l laws) sums(x, y, z api.Int) {
	l.hold("x + y", l.add(x, y), l.add(y, x))
	l.hold("x y", l.mul(x, y), l.mul(y, x))
	l.hold("x + y + z", l.add(l.add(x, y), z), l.add(x, l.add(y, z)))
	l.hold("x y z", l.mul(l.mul(x, y), z), l.mul(x, l.mul(y, z)))
	l.hold("x (y + z)", l.mul(x, l.add(y, z)), l.add(l.mul(x, y), l.mul(x, z)))
	l.hold("x + y - y", l.sub(l.add(x, y), y), x)
	l.hold("x - y", l.sub(x, y), minus(l.sub(y, x)))
	l.hold("x + 0", l.add(x, api.Int{}), x)
	l.hold("x 1", l.mul(x, whole.Of(1)), x)
	l.hold("x 0", l.mul(x, api.Int{}), api.Int{})
}

// P1.7: what goes into both goes into sums of their multiples, and leaves two that have none above 1 in common.
func (l laws) parts(x, y, z api.Int) {
	if len(y.Mag) == 0 {
		return
	}
	q, r := l.quo(x, y)
	l.hold("q y + r", l.add(l.mul(q, y), r), x)
	if len(r.Mag) > 0 && r.Neg != x.Neg || whole.Cmp(size(r), size(y)) >= 0 {
		l.t.Fatalf("%v over %v leaves %v", x, y, r)
	}
	l.hold("x y / y", first(l.quo(l.mul(x, y), y)), x)
	g := l.gcd(l.mul(x, z), l.mul(y, z))
	l.hold("GCD(x z, y z)", g, l.mul(l.gcd(x, y), size(z)))
	g = l.gcd(x, y)
	_, left := l.quo(l.add(l.mul(x, z), l.mul(y, x)), g)
	l.hold("GCD into a sum", left, api.Int{})
	l.hold("GCD of what is left", l.gcd(first(l.quo(x, g)), first(l.quo(y, g))), whole.Of(1))
	root, square, e := whole.Root(l.mul(x, x))
	l.hold("Root(x x)", got(l.t, root, e), size(x))
	if !square {
		l.t.Fatalf("%v times itself is no square", x)
	}
}

// P1.7: shifts and texts, there and back.
func (l laws) back(x api.Int) {
	for _, n := range []int{0, 1, 31, 32, 64, 101} {
		up, e := whole.Shift(x, n)
		back, f := whole.Shift(got(l.t, up, e), -n)
		l.hold("up and back", got(l.t, back, f), x)
	}
	s, e := whole.Text(x)
	y, f := whole.Parse(s)
	if e != api.OK {
		l.t.Fatalf("Text: %v", e)
	}
	l.hold("Parse(Text)", got(l.t, y, f), x)
	if again, _ := whole.Text(y); again != s {
		l.t.Fatalf("Text(Parse(%s)) = %s", s, again)
	}
}

func size(x api.Int) api.Int     { return api.Int{Mag: x.Mag} }
func first(q, _ api.Int) api.Int { return q }

func TestLaws(t *testing.T) {
	r := rand.New(rand.NewSource(9))
	l := laws{t}
	for _, n := range []int{1, 2, 3, 9, 40} {
		for range 500 {
			x, y, z := sized(r, n), sized(r, n), sized(r, n)
			l.sums(x, y, z)
			l.parts(x, y, z)
			l.back(x)
		}
	}
	l.back(full(api.MaxLimbs - 4))
}

// roomy: the same number in a list with spare room, which is marked.
func roomy(x api.Int) api.Int {
	l := append(slices.Clone(x.Mag), 11, 12, 13)
	return api.Int{Neg: x.Neg, Mag: l[:len(x.Mag)]}
}

// kept: is a roomy number what it was, the spare room too?
func kept(x, was api.Int) bool {
	l := x.Mag[:cap(x.Mag)]
	n := len(x.Mag)
	return same(x, was) && l[n] == 11 && l[n+1] == 12 && l[n+2] == 13
}

// spoil: all of a list, with its spare room, is overwritten.
func spoil(x api.Int) {
	l := x.Mag[:cap(x.Mag)]
	for i := range l {
		l[i] = 0xdead
	}
}

// R4: what is handed in stays as it is, and no answer shares memory with it, or with another answer.
func TestMemory(t *testing.T) {
	values := []api.Int{{}, whole.Of(1), whole.Of(-1), whole.Of(6), whole.Of(1 << 40), top(3), full(4), minus(full(5))}
	for _, x := range values {
		for _, c := range ones() {
			a := roomy(x)
			s, _ := c.do(a)
			if spoil(s); !kept(a, x) {
				t.Errorf("%s(%v) has changed it, or shares memory with it", c.name, x)
			}
		}
		for _, y := range values {
			for _, c := range twos() {
				a, b := roomy(x), roomy(y)
				s, _ := c.do(a, b)
				if spoil(s); !kept(a, x) || !kept(b, y) {
					t.Errorf("%s(%v, %v) has changed them, or shares memory with them", c.name, x, y)
				}
			}
			q, r, _ := whole.QuoRem(x, y)
			was := slices.Clone(r.Mag)
			if spoil(q); !slices.Equal(r.Mag, was) {
				t.Errorf("QuoRem(%v, %v): both share memory", x, y)
			}
		}
	}
}

// R4: one list handed in twice; R5: asked again, the same.
func TestTwice(t *testing.T) {
	for _, x := range edges() {
		for _, c := range twos() {
			s, e := c.do(x, x)
			u, f := c.do(x, api.Int{Neg: x.Neg, Mag: slices.Clone(x.Mag)})
			if e != f || !same(s, u) {
				t.Fatalf("%s(%v, %v): %v, %v and %v, %v", c.name, x, x, s, e, u, f)
			}
		}
	}
}

// R4: no limbs are nought, whether nil or empty.
func TestEmpty(t *testing.T) {
	empty := api.Int{Mag: []uint32{}}
	for _, c := range twos() {
		for _, y := range []api.Int{{}, whole.Of(-4)} {
			s, e := c.do(empty, y)
			u, f := c.do(api.Int{}, y)
			if e != f || !same(s, u) {
				t.Errorf("%s of an empty list: %v, %v; of nil: %v, %v", c.name, s, e, u, f)
			}
		}
	}
	if s, e := whole.Text(empty); s != "0" || e != api.OK {
		t.Errorf("Text of an empty list: %s, %v", s, e)
	}
	if r, square, e := whole.Root(empty); !same(r, api.Int{}) || !square || e != api.OK {
		t.Errorf("Root of nought: %v, %v, %v", r, square, e)
	}
}
