package bench_test

import (
	"math/big"
	"slices"
	"testing"

	"polestar/api"
	"polestar/bench"
	"polestar/ray"
)

// P10.1: MaxElements are allowed, one more is not, whatever they are.
func TestElements(t *testing.T) {
	l := slices.Repeat(row("s 1/2, l 0"), api.MaxElements/2)
	l[5] = lens(rat(3))
	m, e := bench.Matrix(l)
	is(t, "Matrix", m, e, made[api.Matrix](all(l)))
	back, e := bench.Reverse(l)
	slices.Reverse(back)
	is(t, "Reverse", back, e, l)
	rays, e := bench.Trace(l, beam("1 2"))
	if e != api.OK || len(rays) != api.MaxElements {
		t.Fatalf("Trace: %d rays, %v", len(rays), e)
	}
	is(t, "Trace's last one", rays[len(rays)-1:], e, []api.Ray{made[api.Ray](through(all(l), rats{rat(1), rat(2)}))})
	x, e := bench.Length(l)
	is(t, "Length", x, e, num(api.MaxElements/4))
	simple, e := bench.Simple(l)
	is(t, "Simple", simple, e, row("s 3/2, l 3, s 2045/2"))
	l = append(l, space(rat(0)))
	calls(t, l, beam("1 2"), api.ErrLimit)
	calls(t, l, api.Ray{}, api.ErrLimit)
	calls(t, append(l, api.Element{}), beam("1 2"), api.ErrLimit)
	calls(t, make([]api.Element, api.MaxElements+1), beam("1 2"), api.ErrLimit)
	calls(t, make([]api.Element, api.MaxElements), beam("1 2"), api.ErrArg)
	calls(t, make([]api.Element, 1<<20), beam("1 2"), api.ErrLimit)
}

// MaxElements that all do something, with fractions that grow.
func TestElementsThatGrow(t *testing.T) {
	l := slices.Repeat(row("s 2/3, l 1/5, f, u 1/2 3"), api.MaxElements/4)
	want := all(l)
	m, e := bench.Matrix(l)
	is(t, "Matrix", m, e, made[api.Matrix](want))
	rays, e := bench.Trace(l, beam("1 0"))
	if e != api.OK || len(rays) != len(l) {
		t.Fatalf("Trace: %d rays, %v", len(rays), e)
	}
	is(t, "Trace's last one", rays[len(l)-1:], e, []api.Ray{made[api.Ray](rats{want[0], want[2]})})
	simple, e := bench.Simple(l)
	is(t, "Simple", simple, e, slices.Repeat(row("s 2/3, l 1/5, f, l 3/2"), api.MaxElements/4))
}

// edges: two fractions whose sums lie at the limit, and two whose products do, numerators and denominators.
func edges() (sums, products []rats) {
	const half = 16 * api.MaxLimbs
	few := inverse(power(2*half-2, 0))
	return []rats{
		{less(most(), rat(1)), rat(1)}, {most(), rat(1)}, {few, big.NewRat(1, 3)}, {few, big.NewRat(1, 5)},
	}, []rats{
		{power(half, 0), power(half-1, 0)}, {power(half, 0), power(half, 0)}, {power(half, -1), power(half, 1)}, {rat(2), power(2*half-1, -1)},
		{inverse(power(half, -1)), inverse(power(half, 1))}, {inverse(power(half, 0)), inverse(power(half, 0))},
	}
}

// R2: one number beyond the limit in any one place of an answer.
func TestLimitOfAnswers(t *testing.T) {
	sums, products := edges()
	var benches [][]api.Element
	for _, x := range sums {
		benches = append(benches, []api.Element{space(x[0]), space(x[1])}, []api.Element{lens(x[0]), lens(x[1])}, []api.Element{lens(minus(x[0])), flip(), lens(minus(x[1]))},
			[]api.Element{slab(x[0], rat(1)), slab(x[1], rat(1))}, []api.Element{space(rat(1)), lens(x[0]), lens(x[1]), space(rat(1))})
	}
	for _, x := range products {
		benches = append(benches, []api.Element{space(x[0]), lens(x[1])}, []api.Element{lens(x[0]), space(x[1])}, []api.Element{slab(x[0], inverse(x[1]))},
			[]api.Element{surface(x[0], x[1])}, []api.Element{surface(minus(x[0]), x[1]), flip()}, []api.Element{space(x[0]), lens(minus(x[1]))})
	}
	refusals := 0
	for _, l := range benches {
		m, e := bench.Matrix(l)
		fits(t, "Matrix", m, e, made[api.Matrix](all(l)))
		simple, e := bench.Simple(l)
		fits(t, "Simple", simple, e, rewritten(l))
		refusals += int(e)
		if len(l) == 1 {
			m, e := bench.One(l[0])
			fits(t, "One", m, e, made[api.Matrix](all(l)))
		}
		for _, in := range []rats{{rat(1), rat(0)}, {rat(0), rat(1)}} {
			var way []api.Ray
			at := in
			for _, x := range l {
				at = through(does(x), at)
				way = append(way, made[api.Ray](at))
			}
			rays, e := bench.Trace(l, made[api.Ray](in))
			fits(t, "Trace", rays, e, way)
		}
	}
	if refusals == 0 {
		t.Fatal("nothing was refused")
	}
	for _, x := range sums {
		length, e := bench.Length([]api.Element{space(x[0]), lens(most()), slab(x[1], inverse(most()))})
		fits(t, "Length", length, e, of(plus(x[0], x[1])))
	}
}

// P10.7, R2: elements beyond the limit of matrices that may be.
func TestLimitOfParts(t *testing.T) {
	p, q := power(32*api.MaxLimbs-1, 0), power(32*api.MaxLimbs-1, 1)
	half := inverse(rat(2))
	refusals := 0
	for _, m := range []rats{
		{rat(1), most(), rat(0), rat(1)}, {rat(1), rat(0), most(), rat(1)}, {rat(-1), rat(0), minus(most()), rat(-1)},
		{p, less(p, rat(1)), plus(p, rat(1)), p}, {minus(p), less(rat(1), p), minus(q), minus(p)}, // (1 - p) / (p - 1) is -1
		{most(), rat(1), rat(-1), rat(0)}, {minus(most()), rat(1), rat(-1), rat(0)}, {rat(0), rat(1), rat(-1), minus(most())}, // one more than the greatest
		{minus(most()), rat(-1), rat(1), rat(0)}, {most(), rat(-1), rat(1), rat(0)},
		{most(), rat(0), rat(0), inverse(most())}, {minus(p), rat(0), rat(0), minus(inverse(p))}, {minus(most()), rat(0), rat(7), minus(inverse(most()))},
		{half, most(), rat(0), rat(2)}, {half, rat(0), most(), rat(2)},
		{rat(1), inverse(most()), rat(0), rat(1)}, {rat(0), inverse(most()), minus(most()), rat(0)},
		{minus(half), inverse(most()), minus(most()), rat(0)}, {rat(0), inverse(most()), minus(most()), minus(half)}, // 3/2 times the greatest, in the first lens, in the last one
	} {
		if ray.Check(made[api.Matrix](m)) != api.OK {
			t.Fatalf("%s may not be", told(made[api.Matrix](m)))
		}
		got, e := bench.Parts(made[api.Matrix](m))
		fits(t, "Parts", got, e, withoutEmptyLenses(table(m)))
		refusals += int(e)
	}
	if refusals == 0 {
		t.Fatal("nothing was refused")
	}
}

// R7: what stands on the way is far beyond the limit, the answer is not.
func TestNoLimitOnTheWay(t *testing.T) {
	p, q := power(32*api.MaxLimbs-1, -1), power(32*api.MaxLimbs-1, 1)
	l := []api.Element{slab(p, q), surface(q, p), flip(), lens(most()), slab(most(), inverse(p)), space(q)}
	undone := []api.Element{lens(most()), lens(most()), surface(most(), p), lens(minus(most())), surface(minus(p), most()), lens(minus(most()))}
	m, e := bench.Matrix(undone)
	is(t, "Matrix", m, e, matrix("1 0 0 1"))
	simple, e := bench.Simple(undone)
	is(t, "Simple", simple, e, nil)
	// A quarter of a turn twice is a flip, which another one undoes, whatever stands ahead of it is undone as well.
	quarter := row("l 1, s 1, l 1")
	m, e = bench.Matrix(slices.Concat(undone, quarter, quarter, undone, row("f")))
	is(t, "Matrix", m, e, matrix("1 0 0 1"))
	x, e := bench.Length([]api.Element{space(over(p, q)), space(over(rat(2), q))})
	is(t, "Length", x, e, num(1))
	back := slices.Concat(l, undoneBy(l))
	m, e = bench.Matrix(back)
	is(t, "Matrix of a bench and what undoes it", m, e, matrix("1 0 0 1"))
	m, e = bench.Matrix(back[:len(back)-9])
	refused(t, "Matrix of nearly that", m, e, api.ErrLimit)
}

// undoneBy: elements behind a bench that undo it: a lens of -p undoes one of p; between a quarter of a turn and one the other way round it undoes a space of p.
func undoneBy(l []api.Element) (out []api.Element) {
	quarter, other := row("l 1, s 1, l 1"), row("f, l 1, s 1, l 1")
	for _, e := range slices.Backward(l) {
		p, q := worth(e.P), worth(e.Q)
		switch e.Kind {
		case api.ElSpace:
			out = slices.Concat(out, quarter, []api.Element{lens(minus(p))}, other)
		case api.ElSlab:
			out = slices.Concat(out, quarter, []api.Element{surface(minus(p), inverse(q))}, other)
		case api.ElLens:
			out = append(out, lens(minus(p)))
		case api.ElSurface:
			out = append(out, surface(minus(p), q))
		case api.ElFlip:
			out = append(out, flip())
		}
	}
	return out
}
