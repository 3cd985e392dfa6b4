package orbit_test

import (
	"slices"
	"testing"

	"polestar/api"
	"polestar/orbit"
)

// given is what the calls are handed.
type given struct {
	m     api.Matrix
	r     api.Ray
	limit api.Frac
	n     int
}

// lists: where all lists of limbs stand.
func (g *given) lists() (all []*[]uint32) {
	for _, x := range append(places(&g.m), &g.r.Y, &g.r.U, &g.limit) {
		all = append(all, &x.Num.Mag, &x.Den.Mag)
	}
	return all
}

// changed: the same, what is done to each list of limbs being done.
func (g given) changed(do func(l []uint32) []uint32) given {
	for _, l := range g.lists() {
		*l = do(*l)
	}
	return g
}

// roomy: in lists of their own, with spare room, which is marked.
func (g given) roomy() given {
	return g.changed(func(l []uint32) []uint32 { return append(slices.Clone(l), 11, 12, 13)[:len(l)] })
}

// kept: is what is roomy what it was, the spare room too?
func (g given) kept(was given) bool {
	mine, other := g.lists(), was.lists()
	for i, l := range mine {
		if !slices.Equal(*l, *other[i]) || !slices.Equal((*l)[len(*l):len(*l)+3], []uint32{11, 12, 13}) {
			return false
		}
	}
	return true
}

func givens() (l []given) {
	limits := rats{rat(5), over(power(200, 1), rat(3)), rat(-1), rat(0), rat(7)}
	for i, m := range append(matrices(kinds()), list("0 1 -1 1"), list("1/2 1 -3/4 1/2")) {
		for j, r := range rayTexts() {
			l = append(l, given{made(m), theRay(r), of(limits[(i+j)%5]), (i + j) % 7})
		}
	}
	wide := made(rats{most(), rat(0), rat(0), inverse(most())})
	long := madeRay(rats{over(power(100, 3), power(90, 1)), power(70, 0)})
	return append(l,
		given{wide, theRay("0 1"), num("1"), 1},
		given{wide, madeRay(rats{inverse(most()), most()}), num("1"), 2}, // ErrLimit
		given{made(rats{power(200, 1), rat(1), rat(-1), rat(0)}), long, num("1/3"), 2},
		given{matrix("0 1 -1 0"), long, of(power(80, 0)), 3},
		given{matrix("1 0 0 1"), theRay("1 0"), num("1"), -1},   // ErrArg
		given{matrix("1 1 1 1"), theRay("1 0"), num("1"), 1},    // ErrArg
		given{matrix("2 3 1 2"), theRay("1 0"), num("1"), 5000}, // ErrLimit
		given{matrix("1 0 0 1"), api.Ray{}, num("1"), 1},
		given{matrix("1 0 0 1"), theRay("1 0"), api.Frac{}, 1},
		given{},
	)
}

// calls: each one, as one that answers fractions; whole numbers and yes are fractions too.
func calls() map[string]func(g given) ([]api.Frac, api.Errno) {
	return map[string]func(g given) ([]api.Frac, api.Errno){
		"Power": func(g given) ([]api.Frac, api.Errno) { return trips(g.m, g.n) },
		"After": func(g given) ([]api.Frac, api.Errno) { return after(g.m, g.r, g.n) },
		"Form":  func(g given) ([]api.Frac, api.Errno) { return form(g.m, g.r) },
		"Bound": func(g given) ([]api.Frac, api.Errno) { return bound(g.m, g.r) },
		"Stays": func(g given) ([]api.Frac, api.Errno) {
			stays, e := orbit.Stays(g.m, g.r)
			if stays {
				return []api.Frac{num("1")}, e
			}
			return []api.Frac{num("0")}, e
		},
		"Leaves": func(g given) ([]api.Frac, api.Errno) {
			n, e := orbit.Leaves(g.m, g.r, g.limit)
			return []api.Frac{of(rat(int64(n)))}, e
		},
	}
}

// copied: the same fractions in other memory.
func copied(l []api.Frac) []api.Frac {
	l = slices.Clone(l)
	for i, x := range l {
		l[i].Num.Mag, l[i].Den.Mag = slices.Clone(x.Num.Mag), slices.Clone(x.Den.Mag)
	}
	return l
}

// limbs: the lists of fractions, two each.
func limbs(l []api.Frac) (all [][]uint32) {
	for _, x := range l {
		all = append(all, x.Num.Mag, x.Den.Mag)
	}
	return all
}

// R4, R5: what is handed in stays as it is, no answer shares memory with it, with another answer, or within itself, and the same comes again.
func TestMemory(t *testing.T) {
	for what, do := range calls() {
		for i, was := range givens() {
			g := was.roomy()
			first, e := do(g)
			second, f := do(g)
			want := copied(second)
			if e != f || !same(first, second) {
				t.Fatalf("%s of %d = %s, %v, then %s, %v", what, i, told(first...), e, told(second...), f)
			}
			spoil(t, what, first, want)
			if !same(second, want) || !g.kept(was) {
				t.Fatalf("%s of %d has changed what it was given, or shares memory with it or with another answer", what, i)
			}
			again, h := do(g)
			if h != e || !same(again, want) {
				t.Fatalf("%s of %d = %s, %v, once an answer was written to", what, i, told(again...), h)
			}
		}
	}
}

// spoil: the lists of an answer are overwritten one by one, with their spare room; the others must stay as they were.
func spoil(t *testing.T, what string, answer, want []api.Frac) {
	t.Helper()
	lists, was := limbs(answer), limbs(want)
	for i, l := range lists {
		room := l[:cap(l)]
		for j := range room {
			room[j] = 0xdead
		}
		for j := i + 1; j < len(lists); j++ {
			if !slices.Equal(lists[j], was[j]) {
				t.Fatalf("%s: two lists of the answer share memory", what)
			}
		}
	}
}

// R4: an answer is not what was handed in: it stays as it is when that is overwritten.
func TestAnswersStay(t *testing.T) {
	for what, do := range calls() {
		for i, was := range givens() {
			g := was.roomy()
			got, _ := do(g)
			want := copied(got)
			for _, l := range g.lists() {
				room := (*l)[:cap(*l)]
				for j := range room {
					room[j] = 0xdead
				}
			}
			if !same(got, want) {
				t.Fatalf("%s of %d shares memory with what it was given", what, i)
			}
		}
	}
}

// alike: the same answers of two that are the same, in whatever lists.
func alike(t *testing.T, g, h given) {
	t.Helper()
	for what, do := range calls() {
		x, e := do(g)
		y, f := do(h)
		if e != f || !same(x, y) {
			t.Fatalf("%s = %s, %v and %s, %v", what, told(x...), e, told(y...), f)
		}
	}
}

// R4: no limbs are nought, whether nil or empty; one list may stand in all places.
func TestLists(t *testing.T) {
	for _, g := range givens() {
		alike(t, g, g.changed(func(l []uint32) []uint32 { return append([]uint32{}, l...) }))
		alike(t, g, g.changed(func(l []uint32) []uint32 { return append([]uint32(nil), l...) }))
	}
	ones := []uint32{1}
	for _, text := range []string{"0 1 -1 1", "0 1 -1 0", "1 1 0 1", "1 0 -1 1", "-1 0 0 -1"} {
		for _, r := range []string{"0 0", "1 0", "0 -1", "1 1"} {
			for n := range 4 {
				g := given{matrix(text), theRay(r), num("1"), n}
				alike(t, g, g.changed(func(l []uint32) []uint32 { return ones[:min(len(l), 1)] }))
			}
		}
	}
}

// R5: many at one time, on the same fractions, answer what one alone answers.
func TestAtOneTime(t *testing.T) {
	g := given{matrix("1/3 1 -8/9 1/3"), theRay("3 4"), num("5"), 9}.roomy()
	type answer struct {
		what string
		l    []api.Frac
		e    api.Errno
	}
	all := make(chan answer)
	for what, do := range calls() {
		for range 8 {
			go func() {
				l, e := do(g)
				all <- answer{what, l, e}
			}()
		}
	}
	for range 8 * len(calls()) {
		got := <-all
		if l, e := calls()[got.what](g); e != got.e || !same(l, got.l) {
			t.Errorf("%s = %s, %v at one time", got.what, told(got.l...), got.e)
		}
	}
}
