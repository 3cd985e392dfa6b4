package gauss_test

import (
	"slices"
	"testing"

	"polestar/api"
	"polestar/gauss"
)

// call is a call of two numbers (or of one of them, or of a part) that answers a number.
type call struct {
	name string
	do   func(x, y api.Gauss) (api.Gauss, api.Errno)
}

func calls() []call {
	l := []call{
		{"Conj", func(x, _ api.Gauss) (api.Gauss, api.Errno) { return gauss.Conj(x) }},
		{"Norm", func(x, _ api.Gauss) (api.Gauss, api.Errno) { n, e := gauss.Norm(x); return number(n, api.Frac{}), e }},
		{"Unit", func(x, _ api.Gauss) (api.Gauss, api.Errno) { return gauss.Unit(x.Re) }},
		{"Of", func(_, _ api.Gauss) (api.Gauss, api.Errno) { return gauss.Of(1, 1), api.OK }},
		{"FromComplex", func(_, _ api.Gauss) (api.Gauss, api.Errno) { return gauss.FromComplex(complex(1, 1)) }},
		{"Complex", func(x, _ api.Gauss) (api.Gauss, api.Errno) { _, e := gauss.Complex(x); return api.Gauss{}, e }},
		{"Text", func(x, _ api.Gauss) (api.Gauss, api.Errno) { _, e := gauss.Text(x); return api.Gauss{}, e }},
		{"Check", func(x, _ api.Gauss) (api.Gauss, api.Errno) { return api.Gauss{}, gauss.Check(x) }},
		{"Parse", func(_, _ api.Gauss) (api.Gauss, api.Errno) { return gauss.Parse("1+i") }},
	}
	for _, c := range twos() {
		l = append(l, call{c.name, c.do})
	}
	return l
}

// limbs: the four lists of a number.
func limbs(z *api.Gauss) []*[]uint32 {
	return []*[]uint32{&z.Re.Num.Mag, &z.Re.Den.Mag, &z.Im.Num.Mag, &z.Im.Den.Mag}
}

// roomy: the same number, its lists with spare room, which is marked.
func roomy(z api.Gauss) api.Gauss {
	for _, l := range limbs(&z) {
		*l = append(slices.Clone(*l), 11, 12, 13)[:len(*l)]
	}
	return z
}

// kept: is a roomy number what it was, the spare room too?
func kept(z, was api.Gauss) bool {
	for _, l := range limbs(&z) {
		if n := len(*l); !slices.Equal((*l)[n:n+3], []uint32{11, 12, 13}) {
			return false
		}
	}
	return same(z, was)
}

func copied(z api.Gauss) api.Gauss {
	for _, l := range limbs(&z) {
		*l = slices.Clone(*l)
	}
	return z
}

// R4: what is handed in stays as it is, and no answer shares memory with it, with another answer, or within itself.
func TestMemory(t *testing.T) {
	values := []api.Gauss{
		{}, parts(0, 1, 0, 1), parts(1, 1, 0, 1), parts(0, 1, -1, 1), parts(1, 1, 1, 1), parts(-2, 3, 5, 7), parts(1<<40, 3, 1, 1<<62),
		number(quo(power(200, 1), power(130, 0)), minus(quo(power(70, -1), power(33, 0)))),
	}
	for _, c := range calls() {
		for _, x := range values {
			for _, y := range values {
				a, b := roomy(x), roomy(y)
				first, e := c.do(a, b)
				second, f := c.do(a, b)
				want := copied(second)
				if e != f || !same(first, second) {
					t.Fatalf("%s(%s, %s) = %s, then %s", c.name, told(x), told(y), told(first), told(second))
				}
				spoil(t, c.name, &first, want)
				if !same(second, want) || !kept(a, x) || !kept(b, y) {
					t.Fatalf("%s(%s, %s) has changed what it was given, or shares memory with it or with another answer", c.name, told(x), told(y))
				}
				again, g := c.do(a, b)
				if !same(again, want) || g != e {
					t.Fatalf("%s(%s, %s) = %s once an answer was written to", c.name, told(x), told(y), told(again))
				}
			}
		}
	}
}

// spoil: the lists of an answer are overwritten one by one, with their spare room; the others must stay as they were.
func spoil(t *testing.T, what string, z *api.Gauss, want api.Gauss) {
	t.Helper()
	lists, was := limbs(z), limbs(&want)
	for i, l := range lists {
		whole := (*l)[:cap(*l)]
		for j := range whole {
			whole[j] = 0xdead
		}
		for j := i + 1; j < len(lists); j++ {
			if !slices.Equal(*lists[j], *was[j]) {
				t.Fatalf("%s: two lists of the answer share memory", what)
			}
		}
	}
}

// R4: one list in all places; R5: the same answer as of lists of their own.
func TestOneList(t *testing.T) {
	n := api.Int{Mag: []uint32{1}}
	x := api.Frac{Num: n, Den: n}
	for _, c := range calls() {
		got, e := c.do(number(x, x), number(x, x))
		want, f := c.do(parts(1, 1, 1, 1), parts(1, 1, 1, 1))
		if !same(got, want) || e != f {
			t.Errorf("%s of 1+i, twice = %s, %v and %s, %v", c.name, told(got), e, told(want), f)
		}
	}
}

// R4: no limbs are nought, whether nil or empty.
func TestEmpty(t *testing.T) {
	empty := func(z api.Gauss) api.Gauss {
		for _, l := range limbs(&z) {
			if len(*l) == 0 {
				*l = []uint32{}
			}
		}
		return z
	}
	none := func(z api.Gauss) api.Gauss {
		for _, l := range limbs(&z) {
			if len(*l) == 0 {
				*l = nil
			}
		}
		return z
	}
	l := []api.Gauss{{}, parts(0, 1, 0, 1), parts(0, 1, 2, 3), parts(-5, 1, 0, 1), parts(1, 1, 1, 1)}
	for _, c := range calls() {
		for _, x := range l {
			for _, y := range l {
				got, e := c.do(empty(x), empty(y))
				want, f := c.do(none(x), none(y))
				if !same(got, want) || e != f {
					t.Errorf("%s of empty lists: %s, %v; of none: %s, %v", c.name, told(got), e, told(want), f)
				}
			}
		}
	}
}
