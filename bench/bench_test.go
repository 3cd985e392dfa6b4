package bench_test

import (
	"math/rand"
	"slices"
	"testing"

	"polestar/api"
	"polestar/bench"
)

// does: what an element's matrix is, by the document's table.
func does(e api.Element) rats {
	p, q := worth(e.P), worth(e.Q)
	switch e.Kind {
	case api.ElSpace:
		return rats{rat(1), p, rat(0), rat(1)}
	case api.ElLens:
		return rats{rat(1), rat(0), minus(p), rat(1)}
	case api.ElSlab:
		return rats{rat(1), over(p, q), rat(0), rat(1)}
	case api.ElSurface:
		return rats{rat(1), rat(0), minus(times(p, q)), rat(1)}
	}
	return rats{rat(-1), rat(0), rat(0), rat(-1)}
}

// through: what becomes of the ray y, u.
func through(m, r rats) rats {
	return rats{plus(times(m[0], r[0]), times(m[1], r[1])), plus(times(m[2], r[0]), times(m[3], r[1]))}
}

// all: the matrix of a bench, by what becomes of the rays 1, 0 and 0, 1.
func all(l []api.Element) rats {
	first, second := rats{rat(1), rat(0)}, rats{rat(0), rat(1)}
	for _, e := range l {
		first, second = through(does(e), first), through(does(e), second)
	}
	return rats{first[0], second[0], first[1], second[1]}
}

// P10.2: against the library's fractions.
func TestMatrix(t *testing.T) {
	for _, l := range benches() {
		m, e := bench.Matrix(l)
		fits(t, "Matrix of "+told(l), m, e, made[api.Matrix](all(l)))
		for _, x := range l {
			m, e := bench.One(x)
			is(t, "One", m, e, made[api.Matrix](does(x)))
		}
	}
}

// P10.3.
func TestReverse(t *testing.T) {
	for _, l := range benches() {
		want := slices.Clone(l)
		slices.Reverse(want)
		got, e := bench.Reverse(l)
		is(t, "Reverse", got, e, want)
	}
}

// P10.4: against the library's fractions.
func TestTrace(t *testing.T) {
	r := rand.New(rand.NewSource(101))
	for i, l := range benches() {
		in := rats{some(r, 1+i%40), some(r, 1+i%40)}
		var want []api.Ray
		at := in
		for _, x := range l {
			at = through(does(x), at)
			want = append(want, made[api.Ray](at))
		}
		got, e := bench.Trace(l, made[api.Ray](in))
		fits(t, "Trace of "+told(l), got, e, want)
	}
}

// P10.5: against the library's fractions; lenses, surfaces and flips have none.
func TestLength(t *testing.T) {
	for _, l := range benches() {
		want := rat(0)
		for _, x := range l {
			if x.Kind == api.ElSpace || x.Kind == api.ElSlab {
				want = plus(want, worth(x.P))
			}
		}
		got, e := bench.Length(l)
		fits(t, "Length of "+told(l), got, e, of(want))
	}
}

// rewritten: empty elements are left out, and neighbours of one kind become one, one pair after the other from the end on, till there is none.
func rewritten(l []api.Element) []api.Element {
	var out []api.Element
	for _, e := range l {
		switch e.Kind {
		case api.ElSlab:
			e = space(over(worth(e.P), worth(e.Q)))
		case api.ElSurface:
			e = lens(times(worth(e.P), worth(e.Q)))
		}
		out = append(out, e)
	}
	for i := len(out) - 1; i >= 0; {
		e := out[i]
		switch {
		case e.Kind != api.ElFlip && len(e.P.Num.Mag) == 0:
			out = slices.Delete(out, i, i+1)
		case i > 0 && out[i-1].Kind == api.ElFlip && e.Kind == api.ElFlip:
			out = slices.Delete(out, i-1, i+1)
		case i > 0 && out[i-1].Kind == e.Kind:
			sum := plus(worth(out[i-1].P), worth(e.P))
			out = slices.Replace(out, i-1, i+1, element(e.Kind, sum, rat(0)))
		default:
			i--
			continue
		}
		i = len(out) - 1
	}
	return out
}

// P10.6.
func TestSimple(t *testing.T) {
	for _, l := range benches() {
		got, e := bench.Simple(l)
		fits(t, "Simple of "+told(l), got, e, rewritten(l))
	}
}

// P10.6: what goes away lets those on both sides of it meet, however deep; rows of flips; empty ones between others.
func TestSimpleByHand(t *testing.T) {
	for _, c := range [][2]string{
		{"", ""}, {"s 0", ""}, {"l 0", ""}, {"b 0 7", ""}, {"u 0 3", ""}, {"u 3 0", ""}, {"f", "f"}, {"f, f", ""}, {"f, f, f", "f"}, {"f, f, f, f", ""},
		{"s 1, f, f, s 2", "s 3"}, {"s 1, f, l 0, f, s 2", "s 3"}, {"s 1, l 2, f, f, l -2, s 1/2", "s 3/2"},
		{"l 1, s 1, l 2, f, f, l -2, s 0, s 1, l -1", "l 1, s 2, l -1"}, {"l 1, s 1, f, s 0, l 3, u -3 1, f, s 1, l 1", "l 1, s 2, l 1"},
		{"b 1 3, b 2 3, s 1", "s 2"}, {"u 1/2 1/2, l 3/4, u -1 -1", "l 2"}, {"u 1/2 1/2, l -1/4", ""}, {"u -2 3", "l -6"}, {"b 3 3/2", "s 2"},
		{"l 1, l -1, l 5", "l 5"}, {"s 1, l 1, l -1, s 2, l 4", "s 3, l 4"}, {"f, s 1, l 1, l -1, f", "f, s 1, f"}, {"f, l 1, l -1, f", ""},
		{"s 1, l 1, s 1, l 1", "s 1, l 1, s 1, l 1"}, {"f, l 1, f, s 1, f, l 1", "f, l 1, f, s 1, f, l 1"},
		{"s 0, l 0, s 0, f, l 0, s 0", "f"}, {"l 2, l -3", "l -1"}, {"l -1, s 0, l -1", "l -2"},
	} {
		got, e := bench.Simple(row(c[0]))
		is(t, "Simple of "+c[0], got, e, row(c[1]))
	}
}

// made of: the elements of a matrix, by the chapter's table.
func table(m rats) []api.Element {
	a, b, c, d := m[0], m[1], m[2], m[3]
	turned := func() []api.Element {
		return append([]api.Element{flip()}, table(rats{minus(a), minus(b), minus(c), minus(d)})...)
	}
	switch {
	case b.Sign() > 0:
		return []api.Element{lens(over(less(rat(1), a), b)), space(b), lens(over(less(rat(1), d), b))}
	case b.Sign() < 0:
		return turned()
	case a.Cmp(rat(1)) == 0:
		return []api.Element{lens(minus(c))}
	case a.Cmp(rat(-1)) == 0:
		return []api.Element{flip(), lens(c)}
	case a.Sign() < 0:
		return append([]api.Element{space(rat(1))}, table(rats{a, less(b, a), c, less(d, c)})...)
	}
	return turned()
}

func withoutEmptyLenses(l []api.Element) []api.Element {
	return slices.DeleteFunc(l, func(e api.Element) bool { return e.Kind == api.ElLens && len(e.P.Num.Mag) == 0 })
}

// P10.7, P10.8: by the table; at most five elements, of that matrix.
func TestParts(t *testing.T) {
	r := rand.New(rand.NewSource(102))
	for i := range 3000 {
		m := someMatrix(r, 1+i%30)
		got, e := bench.Parts(m)
		is(t, "Parts of "+told(m), got, e, withoutEmptyLenses(table(worths(&m))))
		back, e := bench.Matrix(got)
		is(t, "Matrix of Parts", back, e, m)
		if len(got) > 5 {
			t.Fatalf("Parts of %s = %s", told(m), told(got))
		}
	}
}

// P10.7: each row of the table, empty lenses in each place.
func TestPartsByHand(t *testing.T) {
	for _, c := range [][2]string{
		{"1 3 0 1", "s 3"}, {"1 1/2 -2 0", "s 1/2, l 2"}, {"0 1/2 -2 1", "l 2, s 1/2"}, {"2 1 1 1", "l -1, s 1"}, {"2 3 1 2", "l -1/3, s 3, l -1/3"}, {"-1 1 0 -1", "l 2, s 1, l 2"},
		{"-1 -3 0 -1", "f, s 3"}, {"0 -1 1 0", "f, l 1, s 1, l 1"}, {"2 -3 -1 2", "f, l 1, s 3, l 1"}, {"1 -1/2 0 1", "f, l 4, s 1/2, l 4"},
		{"1 0 5 1", "l -5"}, {"1 0 -1/3 1", "l 1/3"}, {"-1 0 -2 -1", "f, l -2"}, {"-1 0 1/7 -1", "f, l 1/7"},
		{"-2 0 3 -1/2", "s 1, l 3/2, s 2, l 9/4"}, {"-1/3 0 0 -3", "s 1, l 4, s 1/3, l 12"}, {"-1/2 0 3 -2", "s 1, l 3, s 1/2, l 12"}, {"-1/2 0 -3 -2", "s 1, l 3, s 1/2"},
		{"3 0 0 1/3", "f, s 1, l 4/3, s 3, l 4/9"}, {"1/2 0 3 2", "f, s 1, l 3, s 1/2"},
	} {
		got, e := bench.Parts(matrix(c[0]))
		is(t, "Parts of "+c[0], got, e, row(c[1]))
	}
}
