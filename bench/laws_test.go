package bench_test

import (
	"math/rand"
	"slices"
	"testing"

	"polestar/api"
	"polestar/bench"
	"polestar/frac"
	"polestar/ray"
)

// sure: an answer that must not be refused.
func sure[T any](x T, e api.Errno) T {
	if e != api.OK {
		panic(e)
	}
	return x
}

func of1(l []api.Element) api.Matrix { return sure(bench.Matrix(l)) }

func turned(r api.Ray) api.Ray { return api.Ray{Y: r.Y, U: sure(frac.Sub(num(0), r.U))} }

func holds[T things](t *testing.T, what string, x, y T) { t.Helper(); is(t, what, x, api.OK, y) }

// short: benches whose matrices are not refused.
func short() [][]api.Element {
	return slices.DeleteFunc(benches(), func(l []api.Element) bool { return len(l) > 40 })
}

// P10.8, P0.1: of matrices.
func TestLawsOfMatrices(t *testing.T) {
	all := short()
	for i, l := range all {
		other := all[len(all)-1-i]
		m := of1(l)
		if e := ray.Check(m); e != api.OK {
			t.Fatalf("the matrix of %s may not be: %v", told(l), e)
		}
		holds(t, "Matrix of both", of1(slices.Concat(l, other)), sure(ray.Mul(of1(other), m)))
		holds(t, "Matrix of the reversed bench", of1(sure(bench.Reverse(l))), sure(ray.Mirror(m)))
		holds(t, "reversed twice", sure(bench.Reverse(sure(bench.Reverse(l)))), l)
		holds(t, "Matrix of Parts", of1(sure(bench.Parts(m))), m)
		holds(t, "Length of the reversed bench", sure(bench.Length(sure(bench.Reverse(l)))), sure(bench.Length(l)))
	}
}

// P10.8, P0.1: of rays.
func TestLawsOfRays(t *testing.T) {
	r := rand.New(rand.NewSource(103))
	for _, l := range short() {
		first, second := made[api.Ray](rats{some(r, 9), some(r, 9)}), made[api.Ray](rats{some(r, 9), some(r, 9)})
		out, also := first, second
		if way := sure(bench.Trace(l, first)); len(way) > 0 {
			out, also = way[len(way)-1], sure(bench.Trace(l, second))[len(l)-1]
		}
		last := []api.Ray{out}
		holds(t, "the last ray of Trace", last, []api.Ray{sure(ray.Through(of1(l), first))})
		holds(t, "Cross behind the bench", sure(ray.Cross(out, also)), sure(ray.Cross(first, second)))
		came := turned(out)
		if way := sure(bench.Trace(sure(bench.Reverse(l)), came)); len(way) > 0 {
			came = way[len(way)-1]
		}
		holds(t, "the ray that came back", []api.Ray{turned(came)}, []api.Ray{first})
	}
}

// P10.6, P10.8: of Simple.
func TestLawsOfSimple(t *testing.T) {
	for _, l := range short() {
		simple := sure(bench.Simple(l))
		if e := bench.Check(simple); e != api.OK {
			t.Fatalf("Simple of %s = %s: %v", told(l), told(simple), e)
		}
		holds(t, "Matrix of Simple", of1(simple), of1(l))
		holds(t, "Simple of a Simple one", sure(bench.Simple(simple)), simple)
		for i, e := range simple {
			if i > 0 && simple[i-1].Kind == e.Kind || e.Kind == api.ElSlab || e.Kind == api.ElSurface || e.Kind != api.ElFlip && frac.Sign(e.P) == 0 {
				t.Fatalf("Simple of %s = %s", told(l), told(simple))
			}
		}
	}
}
