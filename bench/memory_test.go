package bench_test

import (
	"slices"
	"testing"

	"polestar/api"
	"polestar/bench"
)

// given is what the calls are handed.
type given struct {
	l []api.Element
	r api.Ray
	m api.Matrix
}

// changed: the same, what is done to each list of limbs being done; the elements stand in a list of their own, with spare room.
func (g given) changed(do func(l []uint32) []uint32) given {
	room := make([]api.Element, len(g.l), len(g.l)+3)
	copy(room, g.l)
	for i := range 3 {
		room[:len(g.l)+3][len(g.l)+i] = flip()
	}
	g.l = room
	for _, x := range []any{&g.l, &g.r, &g.m} {
		for _, l := range limbs(x) {
			*l = do(*l)
		}
	}
	return g
}

// roomy: in lists of their own, with spare room, which is marked.
func (g given) roomy() given {
	return g.changed(func(l []uint32) []uint32 { return append(slices.Clone(l), 11, 12, 13)[:len(l)] })
}

// kept: is what is roomy what it was, the spare room too?
func (g given) kept(was given) bool {
	marked := same(g.l[len(g.l):len(g.l)+3], row("f, f, f"))
	for _, x := range []any{&g.l, &g.r, &g.m} {
		for _, l := range limbs(x) {
			marked = marked && slices.Equal((*l)[len(*l):len(*l)+3], []uint32{11, 12, 13})
		}
	}
	return marked && same(g.l, was.l) && same(g.m, was.m) && same([]api.Ray{g.r}, []api.Ray{was.r})
}

func givens() []given {
	great := element(api.ElSurface, over(power(200, 1), power(130, 0)), over(power(70, -1), rat(3)))
	wrong := row("s 1, l 2")
	wrong[1].P.Den.Mag = nil
	return []given{
		{nil, beam("0 0"), matrix("1 0 0 1")},
		{row("s 1/2, l 2"), beam("0 1"), matrix("0 1 -1 0")},
		{row("s 0, l 0, f, f, b 0 1, u 0 0"), beam("1 2"), matrix("-1 0 0 -1")},
		{row("s 1, b 2 2, l 1, s 0, u 1 1, f, l 0, f, s 3"), beam("1/3 -2/5"), matrix("2 0 0 1/2")},
		{append(row("s 1, f, s 2"), great, great, flip(), space(power(100, 0))), beam("1 1"), matrix("-2 0 7 -1/2")},
		{row("s 1, s 1, f, s 1, f, l 1"), beam("1 0"), matrix("2 -3 -1 2")},
		{[]api.Element{space(most()), lens(most()), space(most())}, beam("1 1"), made[api.Matrix](rats{minus(most()), rat(1), rat(-1), rat(0)})}, // ErrLimit
		{wrong, beam("1 1"), matrix("1 1 1 1")},                                                                                                  // ErrArg
	}
}

// R4, R5: what is handed in stays as it is, no answer shares memory with it, with another answer, or within itself, and the same comes again.
func memory[T things](t *testing.T, what string, do func(g given) (T, api.Errno)) {
	t.Helper()
	for i, was := range givens() {
		g := was.roomy()
		first, e := do(g)
		second, f := do(g)
		want, _ := do(was.roomy())
		if e != f || !same(first, second) || !same(want, second) {
			t.Fatalf("%s of %d = %s, %v, then %s, %v", what, i, told(first), e, told(second), f)
		}
		spoil(t, what, &first, &want)
		if !same(second, want) || !g.kept(was) {
			t.Fatalf("%s of %d has changed what it was given, or shares memory with it or with another answer", what, i)
		}
		again, h := do(g)
		if h != e || !same(again, want) {
			t.Fatalf("%s of %d = %s, %v, once an answer was written to", what, i, told(again), h)
		}
	}
}

// spoil: the lists of an answer are overwritten one by one, with their spare room; the others must stay as they were. Then the elements, the rays are.
func spoil(t *testing.T, what string, thing, want any) {
	t.Helper()
	lists, was := limbs(thing), limbs(want)
	for i, l := range lists {
		room := (*l)[:cap(*l)]
		for j := range room {
			room[j] = 0xdead
		}
		for j := i + 1; j < len(lists); j++ {
			if !slices.Equal(*lists[j], *was[j]) {
				t.Fatalf("%s: two lists of the answer share memory", what)
			}
		}
	}
	switch x := thing.(type) {
	case *[]api.Element:
		clear((*x)[:cap(*x)])
	case *[]api.Ray:
		clear((*x)[:cap(*x)])
	}
}

// asker is each call that answers a thing of one kind.
type asker[T things] map[string]func(g given) (T, api.Errno)

func matrices() asker[api.Matrix] {
	return asker[api.Matrix]{
		"Matrix": func(g given) (api.Matrix, api.Errno) { return bench.Matrix(g.l) },
		"Check":  func(g given) (api.Matrix, api.Errno) { return api.Matrix{}, bench.Check(g.l) },
		"One": func(g given) (api.Matrix, api.Errno) {
			if len(g.l) == 0 {
				return api.Matrix{}, api.OK
			}
			return bench.One(g.l[len(g.l)-1])
		},
	}
}

func rays() asker[[]api.Ray] {
	return asker[[]api.Ray]{"Trace": func(g given) ([]api.Ray, api.Errno) { return bench.Trace(g.l, g.r) }}
}

func lengths() asker[api.Frac] {
	return asker[api.Frac]{"Length": func(g given) (api.Frac, api.Errno) { return bench.Length(g.l) }}
}

func elements() asker[[]api.Element] {
	return asker[[]api.Element]{
		"Reverse": func(g given) ([]api.Element, api.Errno) { return bench.Reverse(g.l) },
		"Simple":  func(g given) ([]api.Element, api.Errno) { return bench.Simple(g.l) },
		"Parts":   func(g given) ([]api.Element, api.Errno) { return bench.Parts(g.m) },
	}
}

func memories[T things](t *testing.T, calls asker[T]) {
	for what, do := range calls {
		memory(t, what, do)
	}
}

func TestMemory(t *testing.T) {
	memories(t, matrices())
	memories(t, rays())
	memories(t, lengths())
	memories(t, elements())
}

// alike: the same answers of two that are the same, in whatever lists.
func alike[T things](t *testing.T, calls asker[T], g, h given) {
	t.Helper()
	for what, do := range calls {
		x, e := do(g)
		y, f := do(h)
		if e != f || !same(x, y) {
			t.Fatalf("%s = %s, %v and %s, %v", what, told(x), e, told(y), f)
		}
	}
}

func alikeAll(t *testing.T, g, h given) {
	t.Helper()
	alike(t, matrices(), g, h)
	alike(t, rays(), g, h)
	alike(t, lengths(), g, h)
	alike(t, elements(), g, h)
}

// R4: no limbs are nought, whether nil or empty; one list may stand in all places; no elements are none, nil or empty.
func TestLists(t *testing.T) {
	for _, g := range givens() {
		alikeAll(t, g, g.changed(func(l []uint32) []uint32 { return append([]uint32{}, l...) }))
		alikeAll(t, g, g.changed(func(l []uint32) []uint32 { return append([]uint32(nil), l...) }))
	}
	alikeAll(t, given{nil, beam("1 1"), matrix("1 0 0 1")}, given{[]api.Element{}, beam("1 1"), matrix("1 0 0 1")})
	list := []uint32{1}
	g := given{row("s 1, l 1, u 1 -1, b 1 1, f, s 1, s 1"), beam("1 -1"), matrix("1 1 0 1")}
	alikeAll(t, g, g.changed(func(l []uint32) []uint32 {
		if len(l) == 0 {
			return l
		}
		return list
	}))
}
