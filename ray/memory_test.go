package ray_test

import (
	"slices"
	"testing"

	"polestar/api"
	"polestar/ray"
)

// given is what the calls are handed.
type given struct {
	m, n api.Matrix
	r, s api.Ray
}

func (g *given) things() []any { return []any{&g.m, &g.n, &g.r, &g.s} }

// changed: the same, what is done to each list being done.
func (g given) changed(do func(l []uint32) []uint32) given {
	for _, x := range g.things() {
		for _, l := range limbs(x) {
			*l = do(*l)
		}
	}
	return g
}

// roomy: in lists of their own, with spare room, which is marked.
func (g given) roomy() given {
	return g.changed(func(l []uint32) []uint32 { return append(slices.Clone(l), 11, 12, 13)[:len(l)] })
}

// kept: is what is roomy what it was, the spare room too?
func (g given) kept(was given) bool {
	marked := true
	g.changed(func(l []uint32) []uint32 {
		marked = marked && slices.Equal(l[len(l):len(l)+3], []uint32{11, 12, 13})
		return l
	})
	return marked && same(g.m, was.m) && same(g.n, was.n) && same(g.r, was.r) && same(g.s, was.s)
}

func givens() []given {
	long := made[api.Matrix](rats{over(power(200, 1), power(130, 0)), rat(0), over(power(70, -1), rat(3)), over(power(130, 0), power(200, 1))})
	tall := made[api.Ray](rats{over(power(90, 1), rat(7)), minus(power(33, -1))})
	none := made[api.Matrix](rats{rat(0), rat(1), rat(-1), rat(0)})
	return []given{
		{ray.One(), ray.One(), beam(0, 0), beam(0, 0)},
		{ray.One(), none, beam(1, 0), beam(0, -1)},
		{none, whole(2, 3, 1, 2), beam(0, 1), beam(4, 5)},
		{whole(2, 3, 1, 2), long, tall, beam(1, 1)},
		{long, long, tall, tall},
		{steep(), steep(), made[api.Ray](rats{most(), most()}), made[api.Ray](rats{minus(most()), most()})}, // ErrLimit
		{steep(), ray.One(), beam(1, 0), beam(0, 1)},
		{api.Matrix{}, ray.One(), api.Ray{}, beam(1, 1)}, // ErrArg
		{ray.One(), whole(1, 1, 1, 1), beam(1, 1), api.Ray{}},
	}
}

// R4, R5: what is handed in stays as it is, no answer shares memory with it, with another answer, or within itself, and the same comes again.
func memory[T things](t *testing.T, what string, do func(g given) (T, api.Errno)) {
	t.Helper()
	for i, was := range givens() {
		g := was.roomy()
		first, e := do(g)
		second, f := do(g)
		want := copied(second)
		if e != f || !same(first, second) {
			t.Fatalf("%s of %d = %s, %v, then %s, %v", what, i, told(first), e, told(second), f)
		}
		spoil(t, what, &first, &want)
		if !same(second, want) || !g.kept(was) {
			t.Fatalf("%s of %d has changed what it was given, or shares memory with it or with another answer", what, i)
		}
		again, h := do(g)
		if h != e || !same(again, want) {
			t.Fatalf("%s of %d = %s, %v, once an answer was written to", what, i, told(again), h)
		}
	}
}

// spoil: the lists of an answer are overwritten one by one, with their spare room; the others must stay as they were.
func spoil(t *testing.T, what string, thing, want any) {
	t.Helper()
	lists, was := limbs(thing), limbs(want)
	for i, l := range lists {
		room := (*l)[:cap(*l)]
		for j := range room {
			room[j] = 0xdead
		}
		for j := i + 1; j < len(lists); j++ {
			if !slices.Equal(*lists[j], *was[j]) {
				t.Fatalf("%s: two lists of the answer share memory", what)
			}
		}
	}
}

// every: each call that answers a thing is asked.
func every(t *testing.T, matrices func(string, func(given) (api.Matrix, api.Errno)), rays func(string, func(given) (api.Ray, api.Errno)), fracs func(string, func(given) (api.Frac, api.Errno))) {
	t.Helper()
	matrices("One", func(given) (api.Matrix, api.Errno) { return ray.One(), api.OK })
	matrices("Mul", func(g given) (api.Matrix, api.Errno) { return ray.Mul(g.m, g.n) })
	matrices("Mul the other way round", func(g given) (api.Matrix, api.Errno) { return ray.Mul(g.n, g.m) })
	matrices("Mul of one twice", func(g given) (api.Matrix, api.Errno) { return ray.Mul(g.m, g.m) })
	matrices("Back", func(g given) (api.Matrix, api.Errno) { return ray.Back(g.m) })
	matrices("Mirror", func(g given) (api.Matrix, api.Errno) { return ray.Mirror(g.m) })
	matrices("Check", func(g given) (api.Matrix, api.Errno) { return api.Matrix{}, ray.Check(g.m) })
	rays("Through", func(g given) (api.Ray, api.Errno) { return ray.Through(g.m, g.r) })
	fracs("Trace", func(g given) (api.Frac, api.Errno) { return ray.Trace(g.m) })
	fracs("Cross", func(g given) (api.Frac, api.Errno) { return ray.Cross(g.r, g.s) })
	fracs("Cross of one twice", func(g given) (api.Frac, api.Errno) { return ray.Cross(g.r, g.r) })
}

func TestMemory(t *testing.T) {
	every(t,
		func(what string, do func(given) (api.Matrix, api.Errno)) { memory(t, what, do) },
		func(what string, do func(given) (api.Ray, api.Errno)) { memory(t, what, do) },
		func(what string, do func(given) (api.Frac, api.Errno)) { memory(t, what, do) })
}

// alike: the same answers of two that are the same, in whatever lists.
func alike[T things](t *testing.T, what string, do func(g given) (T, api.Errno), g, h given) {
	t.Helper()
	x, e := do(g)
	y, f := do(h)
	if e != f || !same(x, y) {
		t.Fatalf("%s = %s, %v and %s, %v", what, told(x), e, told(y), f)
	}
}

func alikeAll(t *testing.T, g, h given) {
	t.Helper()
	every(t,
		func(what string, do func(given) (api.Matrix, api.Errno)) { alike(t, what, do, g, h) },
		func(what string, do func(given) (api.Ray, api.Errno)) { alike(t, what, do, g, h) },
		func(what string, do func(given) (api.Frac, api.Errno)) { alike(t, what, do, g, h) })
}

// R4: no limbs are nought, whether nil or empty; one list may stand in all places.
func TestLists(t *testing.T) {
	for _, g := range givens() {
		alikeAll(t, g, g.changed(func(l []uint32) []uint32 { return append([]uint32{}, l...) }))
		alikeAll(t, g, g.changed(func(l []uint32) []uint32 { return append([]uint32(nil), l...) }))
	}
	list := []uint32{1}
	g := given{whole(1, 1, 0, 1), whole(-1, 0, 1, -1), beam(1, 1), beam(1, -1)}
	alikeAll(t, g, g.changed(func(l []uint32) []uint32 {
		if len(l) == 0 {
			return l
		}
		return list
	}))
}
