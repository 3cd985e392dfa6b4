package image_test

import (
	"slices"
	"testing"

	"polestar/api"
)

// given is what the calls are handed.
type given struct {
	m api.Matrix
	x api.Frac
}

// changed: the same, what is done to each list of limbs being done.
func (g given) changed(do func(l []uint32) []uint32) given {
	for _, x := range append(places(&g.m), &g.x) {
		x.Num.Mag, x.Den.Mag = do(x.Num.Mag), do(x.Den.Mag)
	}
	return g
}

// roomy: in lists of their own, with spare room, which is marked.
func (g given) roomy() given {
	return g.changed(func(l []uint32) []uint32 { return append(slices.Clone(l), 11, 12, 13)[:len(l)] })
}

// kept: is what is roomy what it was, the spare room too?
func (g given) kept(was given) bool {
	marked := true
	g.changed(func(l []uint32) []uint32 {
		marked = marked && slices.Equal(l[len(l):len(l)+3], []uint32{11, 12, 13})
		return l
	})
	return marked && same(g.fracs(), was.fracs())
}

func (g given) fracs() []api.Frac { return []api.Frac{g.m.A, g.m.B, g.m.C, g.m.D, g.x} }

func givens() []given {
	long := made(rats{over(two(200, 1), two(130, 0)), rat(0), over(two(70, -1), rat(3)), over(two(130, 0), two(200, 1))})
	return []given{
		{matrix("1 0 0 1"), num("0")},
		{matrix("1 1 0 1"), num("3")},
		{matrix("1 0 -1 1"), num("2")},
		{matrix("1 0 -1 1"), num("1")}, // ErrZero
		{matrix("0 1 -1 0"), num("1")},
		{matrix("1 1 -1 0"), num("-1/2")},
		{matrix("2 3 1 2"), num("7/3")},
		{long, of(over(two(90, 1), rat(7)))},
		{steep(), num("-1")},
		{steep(), of(most())}, // ErrLimit
		{made(rats{rat(1), inverse(most()), rat(0), rat(1)}), of(most())},
		{api.Matrix{}, api.Frac{}}, // ErrArg
		{matrix("1 1 1 1"), num("1")},
		{matrix("1 1 0 1"), api.Frac{}},
	}
}

// limbs: the lists of fractions, two each.
func limbs(l []api.Frac) (all [][]uint32) {
	for _, x := range l {
		all = append(all, x.Num.Mag, x.Den.Mag)
	}
	return all
}

// copied: the same fractions in other memory.
func copied(l []api.Frac) []api.Frac {
	l = slices.Clone(l)
	for i, x := range l {
		l[i].Num.Mag, l[i].Den.Mag = slices.Clone(x.Num.Mag), slices.Clone(x.Den.Mag)
	}
	return l
}

// R4, R5: what is handed in stays as it is, no answer shares memory with it, with another answer, or within itself, and the same comes again.
func TestMemory(t *testing.T) {
	for what, do := range calls() {
		for i, was := range givens() {
			g := was.roomy()
			first, e := do(g.m, g.x)
			second, f := do(g.m, g.x)
			want := copied(second)
			if e != f || !same(first, second) {
				t.Fatalf("%s of %d = %s, %v, then %s, %v", what, i, told(first...), e, told(second...), f)
			}
			spoil(t, what, first, want)
			if !same(second, want) || !g.kept(was) {
				t.Fatalf("%s of %d has changed what it was given, or shares memory with it or with another answer", what, i)
			}
			again, h := do(g.m, g.x)
			if h != e || !same(again, want) {
				t.Fatalf("%s of %d = %s, %v, once an answer was written to", what, i, told(again...), h)
			}
		}
	}
}

// spoil: the lists of an answer are overwritten one by one, with their spare room; the others must stay as they were.
func spoil(t *testing.T, what string, answer, want []api.Frac) {
	t.Helper()
	lists, was := limbs(answer), limbs(want)
	for i, l := range lists {
		room := l[:cap(l)]
		for j := range room {
			room[j] = 0xdead
		}
		for j := i + 1; j < len(lists); j++ {
			if !slices.Equal(lists[j], was[j]) {
				t.Fatalf("%s: two lists of the answer share memory", what)
			}
		}
	}
}

// R4: no limbs are nought, whether nil or empty; one list may stand in all places.
func TestLists(t *testing.T) {
	alike := func(what string, do call, g, h given) {
		t.Helper()
		x, e := do(g.m, g.x)
		y, f := do(h.m, h.x)
		if e != f || !same(x, y) {
			t.Fatalf("%s = %s, %v and %s, %v", what, told(x...), e, told(y...), f)
		}
	}
	list := []uint32{1}
	for what, do := range calls() {
		for _, g := range givens() {
			alike(what, do, g, g.changed(func(l []uint32) []uint32 { return append([]uint32{}, l...) }))
			alike(what, do, g, g.changed(func(l []uint32) []uint32 { return append([]uint32(nil), l...) }))
		}
		for _, text := range []string{"0 1 -1 1", "1 1 -1 0", "1 0 -1 1"} {
			g := given{matrix(text), num("1")}
			alike(what, do, g, g.changed(func(l []uint32) []uint32 { return list[:min(len(l), 1)] }))
		}
	}
}
