package frac_test

import (
	"math/rand"
	"slices"
	"testing"

	"polestar/api"
	"polestar/frac"
	"polestar/whole"
)

// laws are asked of three fractions at a time.
type laws struct{ t *testing.T }

// got: an answer that is not refused.
func (l laws) got(x api.Frac, e api.Errno) api.Frac {
	l.t.Helper()
	if e != api.OK {
		l.t.Fatalf("refused: %v", e)
	}
	return x
}

func (l laws) add(x, y api.Frac) api.Frac { return l.got(frac.Add(x, y)) }
func (l laws) sub(x, y api.Frac) api.Frac { return l.got(frac.Sub(x, y)) }
func (l laws) mul(x, y api.Frac) api.Frac { return l.got(frac.Mul(x, y)) }
func (l laws) quo(x, y api.Frac) api.Frac { return l.got(frac.Quo(x, y)) }

func (l laws) hold(what string, x, y api.Frac) {
	l.t.Helper()
	if !same(x, y) || frac.Cmp(x, y) != 0 || frac.Check(x) != api.OK {
		l.t.Fatalf("%s: %v is not %v", what, x, y)
	}
}

// P2.7
func (l laws) of(x, y, z api.Frac) {
	nought, one := small(0, 1), small(1, 1)
	l.hold("x + y", l.add(x, y), l.add(y, x))
	l.hold("x y", l.mul(x, y), l.mul(y, x))
	l.hold("x + y + z", l.add(l.add(x, y), z), l.add(x, l.add(y, z)))
	l.hold("x y z", l.mul(l.mul(x, y), z), l.mul(x, l.mul(y, z)))
	l.hold("x (y + z)", l.mul(x, l.add(y, z)), l.add(l.mul(x, y), l.mul(x, z)))
	l.hold("x + y - y", l.sub(l.add(x, y), y), x)
	l.hold("x - x", l.sub(x, x), nought)
	l.hold("x + 0", l.add(x, nought), x)
	l.hold("x 1", l.mul(x, one), x)
	l.hold("x 0", l.mul(x, nought), nought)
	if frac.Sign(y) != 0 {
		l.hold("x y / y", l.quo(l.mul(x, y), y), x)
		l.hold("x / y y", l.mul(l.quo(x, y), y), x)
	}
	if frac.Sign(l.sub(x, y)) != frac.Cmp(x, y) || frac.Cmp(x, y) != -frac.Cmp(y, x) {
		l.t.Fatalf("%v and %v: Cmp %d", x, y, frac.Cmp(x, y))
	}
	root, ok, e := frac.Root(l.mul(x, x))
	if l.hold("Root(x x)", l.got(root, e), api.Frac{Num: api.Int{Mag: x.Num.Mag}, Den: x.Den}); !ok {
		l.t.Fatalf("%v times itself has no root", x)
	}
}

func TestLaws(t *testing.T) {
	r := rand.New(rand.NewSource(30))
	for _, bits := range []int{3, 8, 32, 64, 300} {
		for range 300 {
			laws{t}.of(some(r, bits), some(r, bits), some(r, bits))
		}
	}
	laws{t}.of(some(r, 16000), some(r, 16000), some(r, 16000))
}

// call is a call of two fractions (or of one of them) that answers a fraction.
type call struct {
	name string
	do   func(x, y api.Frac) (api.Frac, api.Errno)
}

func calls() []call {
	l := []call{
		{"Make", func(x, y api.Frac) (api.Frac, api.Errno) { return frac.Make(x.Num, y.Den) }},
		{"Make of one", func(x, _ api.Frac) (api.Frac, api.Errno) { return frac.Make(x.Num, x.Num) }},
		{"Root", func(x, _ api.Frac) (api.Frac, api.Errno) { r, _, e := frac.Root(x); return r, e }},
		{"Of", func(_, _ api.Frac) (api.Frac, api.Errno) { return frac.Of(1, 1) }},
		{"FromFloat", func(_, _ api.Frac) (api.Frac, api.Errno) { return frac.FromFloat(1) }},
		{"FromFloat of 0", func(_, _ api.Frac) (api.Frac, api.Errno) { return frac.FromFloat(0) }},
		{"Parse", func(_, _ api.Frac) (api.Frac, api.Errno) { return frac.Parse("-5/7") }},
		{"Parse of a whole number", func(_, _ api.Frac) (api.Frac, api.Errno) { return frac.Parse("1") }},
		{"Text", func(x, _ api.Frac) (api.Frac, api.Errno) { _, e := frac.Text(x); return api.Frac{}, e }},
		{"Float", func(x, _ api.Frac) (api.Frac, api.Errno) { _, e := frac.Float(x); return api.Frac{}, e }},
		{"Cmp", func(x, y api.Frac) (api.Frac, api.Errno) { frac.Cmp(x, y); return api.Frac{}, api.OK }},
		{"Sign, Check", func(x, _ api.Frac) (api.Frac, api.Errno) { frac.Sign(x); return api.Frac{}, frac.Check(x) }},
	}
	for _, c := range twos() {
		l = append(l, call{c.name, c.do})
	}
	return l
}

// roomy: a list with spare room, which is marked.
func roomy(l []uint32) []uint32 { return append(slices.Clone(l), 11, 12, 13)[:len(l)] }

func roomyFrac(x api.Frac) api.Frac {
	x.Num.Mag, x.Den.Mag = roomy(x.Num.Mag), roomy(x.Den.Mag)
	return x
}

// kept: is a roomy fraction what it was, the spare room too?
func kept(x, was api.Frac) bool {
	return same(x, was) && marked(x.Num.Mag) && marked(x.Den.Mag)
}

func marked(l []uint32) bool { return slices.Equal(l[len(l):len(l)+3], []uint32{11, 12, 13}) }

// spoil: all of a list, with its spare room, is overwritten.
func spoil(x api.Int) {
	l := x.Mag[:cap(x.Mag)]
	for i := range l {
		l[i] = 0xdead
	}
}

// R4: what is handed in stays as it is, and no answer shares memory with it, with another answer, or within itself.
func TestMemory(t *testing.T) {
	values := []api.Frac{
		small(0, 1), small(1, 1), small(-1, 1), small(4, 9), small(-3, 2), small(1<<40, 3), small(1, 1<<62),
		of(over(power(200, 1), power(130, 0))), of(over(minus(power(70, -1)), power(33, 0))), {},
	}
	for _, c := range calls() {
		for _, x := range values {
			for _, y := range values {
				a, b := roomyFrac(x), roomyFrac(y)
				first, e := c.do(a, b)
				second, f := c.do(a, b)
				want := copied(second)
				if e != f || !same(first, second) {
					t.Fatalf("%s(%v, %v) = %v, then %v", c.name, x, y, first, second)
				}
				if spoil(first.Num); !sameInt(first.Den, want.Den) {
					t.Fatalf("%s(%v, %v): both numbers share memory", c.name, x, y)
				}
				if spoil(first.Den); !same(second, want) {
					t.Fatalf("%s(%v, %v): two answers share memory", c.name, x, y)
				}
				if !kept(a, x) || !kept(b, y) {
					t.Fatalf("%s(%v, %v) has changed them, or shares memory with them", c.name, x, y)
				}
				if again, _ := c.do(a, b); !same(again, want) {
					t.Fatalf("%s(%v, %v) = %v, not %v, once an answer was written to", c.name, x, y, again, want)
				}
			}
		}
	}
}

// R4: one list in several places; R5: the same answer as of lists of their own.
func TestOneList(t *testing.T) {
	list := []uint32{1}
	one := api.Frac{Num: api.Int{Mag: list}, Den: api.Int{Mag: list}}
	for _, c := range calls() {
		x, e := c.do(one, one)
		y, f := c.do(small(1, 1), small(1, 1))
		if !same(x, y) || e != f {
			t.Errorf("%s(1, 1) = %v, %v and %v, %v", c.name, x, e, y, f)
		}
	}
}

// R4: no limbs are nought, whether nil or empty.
func TestEmpty(t *testing.T) {
	empty := api.Frac{Num: api.Int{Mag: []uint32{}}, Den: whole.Of(1)}
	hollow := api.Frac{Num: empty.Num, Den: empty.Num}
	for _, c := range calls() {
		for _, y := range []api.Frac{small(0, 1), small(-3, 2)} {
			x, e := c.do(empty, y)
			z, f := c.do(small(0, 1), y)
			if !same(x, z) || e != f {
				t.Errorf("%s of an empty list: %v, %v; of nil: %v, %v", c.name, x, e, z, f)
			}
			x, e = c.do(y, hollow)
			z, f = c.do(y, api.Frac{})
			if !same(x, z) || e != f {
				t.Errorf("%s of empty lists: %v, %v; of nil: %v, %v", c.name, x, e, z, f)
			}
		}
	}
	if s, e := frac.Text(empty); s != "0" || e != api.OK {
		t.Errorf("Text of an empty list: %s, %v", s, e)
	}
}
