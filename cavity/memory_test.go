package cavity_test

import (
	"slices"
	"testing"

	"polestar/api"
	"polestar/cavity"
)

// given is what the calls are handed.
type given struct {
	l []api.Element
	m api.Matrix
	x [3]api.Frac // both curvatures and the length
}

// lists: where all lists of limbs stand.
func (g *given) lists() (all []*[]uint32) {
	each := places(&g.m)
	for i := range g.l {
		each = append(each, &g.l[i].P, &g.l[i].Q)
	}
	for i := range g.x {
		each = append(each, &g.x[i])
	}
	for _, x := range each {
		all = append(all, &x.Num.Mag, &x.Den.Mag)
	}
	return all
}

// changed: the same, what is done to each list of limbs being done; the elements stand in a list of their own, with spare room, in which flips stand.
func (g given) changed(do func(l []uint32) []uint32) given {
	g.l = append(slices.Clone(g.l), flip(), flip(), flip())[:len(g.l)]
	for _, l := range g.lists() {
		*l = do(*l)
	}
	return g
}

// roomy: in lists of their own, with spare room, which is marked.
func (g given) roomy() given {
	return g.changed(func(l []uint32) []uint32 { return append(slices.Clone(l), 11, 12, 13)[:len(l)] })
}

// kept: is what is roomy what it was, the spare room too?
func (g given) kept(was given) bool {
	if len(g.l) != len(was.l) {
		return false
	}
	mine, other := g.lists(), was.lists()
	for i, l := range mine {
		if !slices.Equal(*l, *other[i]) || !slices.Equal((*l)[len(*l):len(*l)+3], []uint32{11, 12, 13}) {
			return false
		}
	}
	for _, e := range g.l[len(g.l) : len(g.l)+3] {
		if e.Kind != api.ElFlip || !same([]api.Frac{e.P, e.Q}, []api.Frac{num("0"), num("0")}) {
			return false
		}
	}
	return slices.EqualFunc(g.l, was.l, func(x, y api.Element) bool { return x.Kind == y.Kind })
}

func fractions(text string) (x [3]api.Frac) {
	for i, worth := range list(text) {
		x[i] = of(worth)
	}
	return x
}

func givens() []given {
	great := element(api.ElSurface, over(power(200, 1), power(130, 0)), over(power(70, -1), rat(3)))
	wrong := row("s 1, l 2")
	wrong[1].P.Den.Mag = nil
	long, short := of(most()), of(inverse(most()))
	return []given{
		{nil, matrix("1 0 0 1"), fractions("0 0 0")},
		{row("s 1/2, l 2"), matrix("0 1 -1 1"), fractions("1 1 1")},
		{row("l 3, s 0, f"), matrix("-1 0 0 -1"), fractions("1/2 1/2 1")},
		{row("f"), matrix("1 2 0 1"), fractions("0 0 1")},
		{row("s 1"), matrix("2 3 1 2"), fractions("-1/3 2/7 5/4")},
		{row("l 1"), matrix("-1 0 -4 -1"), fractions("1 1/2 1")},
		{row("b 2 3, u 1/3 -2, s 1, f, l 2/5"), matrix("1 0 5 1"), fractions("7 -7 0")},
		{[]api.Element{great, space(power(100, 0)), flip(), great}, made(rats{most(), rat(0), rat(0), inverse(most())}), [3]api.Frac{long, long, short}},
		{[]api.Element{space(most()), lens(most())}, matrix("-1 1 0 -1"), [3]api.Frac{long, short, long}}, // ErrLimit
		{wrong, matrix("1 1 1 1"), fractions("1 1 -1")},                                                   // ErrArg
		{make([]api.Element, api.MaxElements+1), api.Matrix{}, [3]api.Frac{num("1"), {}, num("1")}},       // ErrLimit and ErrArg
		{row("s 1, l 2, s 1, l 2"), made(rats{rat(1), most(), rat(0), rat(1)}), [3]api.Frac{short, short, of(rat(1))}},
	}
}

// calls: each one, as one that answers fractions; a Kind k is the fraction k / 1.
func calls() map[string]func(g given) ([]api.Frac, api.Errno) {
	return map[string]func(g given) ([]api.Frac, api.Errno){
		"Trip round":          func(g given) ([]api.Frac, api.Errno) { return trip(g.l, true) },
		"Trip forth and back": func(g given) ([]api.Frac, api.Errno) { return trip(g.l, false) },
		"Two":                 func(g given) ([]api.Frac, api.Errno) { return two(g.x[0], g.x[1], g.x[2]) },
		"Factors":             func(g given) ([]api.Frac, api.Errno) { return factors(g.x[0], g.x[1], g.x[2]) },
		"Kind": func(g given) ([]api.Frac, api.Errno) {
			kind, e := cavity.Kind(g.m)
			return []api.Frac{of(rat(int64(kind)))}, e
		},
	}
}

// copied: the same fractions in other memory.
func copied(l []api.Frac) []api.Frac {
	l = slices.Clone(l)
	for i, x := range l {
		l[i].Num.Mag, l[i].Den.Mag = slices.Clone(x.Num.Mag), slices.Clone(x.Den.Mag)
	}
	return l
}

// limbs: the lists of fractions, two each.
func limbs(l []api.Frac) (all [][]uint32) {
	for _, x := range l {
		all = append(all, x.Num.Mag, x.Den.Mag)
	}
	return all
}

// R4, R5: what is handed in stays as it is, no answer shares memory with it, with another answer, or within itself, and the same comes again.
func TestMemory(t *testing.T) {
	for what, do := range calls() {
		for i, was := range givens() {
			g := was.roomy()
			first, e := do(g)
			second, f := do(g)
			want := copied(second)
			if e != f || !same(first, second) {
				t.Fatalf("%s of %d = %s, %v, then %s, %v", what, i, told(first...), e, told(second...), f)
			}
			spoil(t, what, first, want)
			if !same(second, want) || !g.kept(was) {
				t.Fatalf("%s of %d has changed what it was given, or shares memory with it or with another answer", what, i)
			}
			again, h := do(g)
			if h != e || !same(again, want) {
				t.Fatalf("%s of %d = %s, %v, once an answer was written to", what, i, told(again...), h)
			}
		}
	}
}

// spoil: the lists of an answer are overwritten one by one, with their spare room; the others must stay as they were.
func spoil(t *testing.T, what string, answer, want []api.Frac) {
	t.Helper()
	lists, was := limbs(answer), limbs(want)
	for i, l := range lists {
		room := l[:cap(l)]
		for j := range room {
			room[j] = 0xdead
		}
		for j := i + 1; j < len(lists); j++ {
			if !slices.Equal(lists[j], was[j]) {
				t.Fatalf("%s: two lists of the answer share memory", what)
			}
		}
	}
}

// R4: an answer is not what was handed in: it stays as it is when that is overwritten.
func TestAnswersStay(t *testing.T) {
	for what, do := range calls() {
		for i, was := range givens() {
			g := was.roomy()
			got, _ := do(g)
			want := copied(got)
			for _, l := range g.lists() {
				room := (*l)[:cap(*l)]
				for j := range room {
					room[j] = 0xdead
				}
			}
			clear(g.l[:cap(g.l)])
			if !same(got, want) {
				t.Fatalf("%s of %d shares memory with what it was given", what, i)
			}
		}
	}
}

// alike: the same answers of two that are the same, in whatever lists.
func alike(t *testing.T, g, h given) {
	t.Helper()
	for what, do := range calls() {
		x, e := do(g)
		y, f := do(h)
		if e != f || !same(x, y) {
			t.Fatalf("%s = %s, %v and %s, %v", what, told(x...), e, told(y...), f)
		}
	}
}

// R4: no limbs are nought, whether nil or empty; no elements are none, nil or empty; one list may stand in all places.
func TestLists(t *testing.T) {
	for _, g := range givens() {
		alike(t, g, g.changed(func(l []uint32) []uint32 { return append([]uint32{}, l...) }))
		alike(t, g, g.changed(func(l []uint32) []uint32 { return append([]uint32(nil), l...) }))
	}
	ones := []uint32{1}
	for _, text := range []string{"0 1 -1 1", "1 1 0 1", "1 0 0 1", "-1 0 0 -1"} {
		g := given{row("s 1, l 1, u 1 -1, b 1 1, f, s 1, s 1"), matrix(text), fractions("1 -1 1")}
		alike(t, g, g.changed(func(l []uint32) []uint32 { return ones[:min(len(l), 1)] }))
	}
	none, empty := givens()[0], givens()[0]
	empty.l = []api.Element{}
	alike(t, none, empty)
}
