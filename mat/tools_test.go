package mat_test

import (
	"fmt"
	"math"
	"math/rand"
	"slices"
	"strconv"
	"strings"
	"testing"

	"polestar/mat"
)

var (
	infinity = math.Inf(1)
	minus0   = math.Copysign(0, -1)
	none     = math.NaN()
)

// of: a matrix by its rows.
func of[T mat.Ring[T]](a, b, c, d T) mat.Mat[T] { return mat.Mat[T]{A: a, B: b, C: c, D: d} }

// is: is an answer this one?
func is[T comparable](t *testing.T, what string, got, want T) {
	t.Helper()
	if got != want {
		t.Fatalf("%s = %v, not %v", what, got, want)
	}
}

// edges: numbers of 64 bits about all borders.
func edges() []mat.Wrap {
	l := []mat.Wrap{0, 1, 2, 3, 127, 128, 1 << 31, 1<<31 - 1, 1<<32 + 1, 3037000499, 3037000500, 1 << 62, math.MaxInt64 - 1, math.MaxInt64, math.MinInt64}
	for _, v := range l[1:] {
		l = append(l, -v)
	}
	return l
}

// wraps: matrices of edges and of other numbers of 64 bits.
func wraps(seed int64) func() mat.Mat[mat.Wrap] {
	r, l := rand.New(rand.NewSource(seed)), edges()
	one := func() mat.Wrap {
		if r.Intn(2) == 0 {
			return l[r.Intn(len(l))]
		}
		return mat.Wrap(r.Uint64())
	}
	return func() mat.Mat[mat.Wrap] { return of(one(), one(), one(), one()) }
}

// smalls: matrices of numbers of 8 bits, every other one of the greatest and least and those about nought.
func smalls(seed int64) func() mat.Mat[mat.Small] {
	r, l := rand.New(rand.NewSource(seed)), []mat.Small{0, 1, -1, 127, -127, -128, 16, 64}
	one := func() mat.Small {
		if r.Intn(2) == 0 {
			return l[r.Intn(len(l))]
		}
		return mat.Small(r.Intn(256) - 128)
	}
	return func() mat.Mat[mat.Small] { return of(one(), one(), one(), one()) }
}

// floats: noughts of both signs, the least and greatest floats, such as are rounded, infinities, and what is no number by unlike bits.
func floats() []float64 {
	l := []float64{0, math.SmallestNonzeroFloat64, 0x1p-1022, 0x1p-600, 0.1, 1, 1 + 0x1p-52, 1 - 0x1p-53, 3, 0x1p600, math.MaxFloat64, infinity}
	for _, v := range l {
		l = append(l, -v)
	}
	l[len(l)/2] = minus0
	return append(l, none, math.Float64frombits(0xfff0<<48|5))
}

// waves: numbers whose parts are any two of those floats.
func waves() []mat.Wave {
	var all []mat.Wave
	for _, re := range floats() {
		for _, im := range floats() {
			all = append(all, mat.Wave(complex(re, im)))
		}
	}
	return all
}

// someWaves: matrices of them, and of others that are near 1 and have all their digits.
func someWaves(seed int64) func() mat.Mat[mat.Wave] {
	r, l := rand.New(rand.NewSource(seed)), waves()
	plain := false
	one := func() mat.Wave {
		if !plain && r.Intn(2) == 0 {
			return l[r.Intn(len(l))]
		}
		return mat.Wave(complex(r.Float64()*4-2, r.Float64()*4-2))
	}
	return func() mat.Mat[mat.Wave] {
		plain = !plain
		return of(one(), one(), one(), one())
	}
}

// alike: the same bits, or both no numbers.
func alike(a, b float64) bool {
	return math.Float64bits(a) == math.Float64bits(b) || a != a && b != b
}

func same(a, b mat.Wave) bool { return alike(real(a), real(b)) && alike(imag(a), imag(b)) }

func sameAll(m, n mat.Mat[mat.Wave]) bool {
	return same(m.A, n.A) && same(m.B, n.B) && same(m.C, n.C) && same(m.D, n.D)
}

// plus, times, minus: of complex numbers by their parts, each operation rounded by itself; they ask nothing of the program.
func plus(a, b mat.Wave) mat.Wave {
	return mat.Wave(complex(real(a)+real(b), imag(a)+imag(b)))
}

func times(a, b mat.Wave) mat.Wave {
	rr, ii, ri, ir := float64(real(a)*real(b)), float64(imag(a)*imag(b)), float64(real(a)*imag(b)), float64(imag(a)*real(b))
	return mat.Wave(complex(rr-ii, ri+ir))
}

func minus(a mat.Wave) mat.Wave {
	turn := func(v float64) float64 { return math.Float64frombits(math.Float64bits(v) ^ 1<<63) }
	return mat.Wave(complex(turn(real(a)), turn(imag(a))))
}

// waveBehind: m behind n, by the chapter's words.
func waveBehind(m, n mat.Mat[mat.Wave]) mat.Mat[mat.Wave] {
	return of(
		plus(times(m.A, n.A), times(m.B, n.C)), plus(times(m.A, n.B), times(m.B, n.D)),
		plus(times(m.C, n.A), times(m.D, n.C)), plus(times(m.C, n.B), times(m.D, n.D)),
	)
}

// A diary has what is asked of the things of its ring, in order; what they answer is numbered from 1 on.
type diary struct {
	lines  []string
	last   int
	unlike string // the one question, as x~y, that is answered by no
}

func (d *diary) write(what string) string {
	d.last++
	name := strconv.Itoa(d.last)
	d.lines = append(d.lines, name+"="+what)
	return name
}

// A told thing is of a ring that tells what it is asked.
type told struct {
	name string
	in   *diary
}

func (x told) Add(y told) told { return told{x.in.write(x.name + "+" + y.name), x.in} }
func (x told) Mul(y told) told { return told{x.in.write(x.name + "*" + y.name), x.in} }
func (x told) Neg() told       { return told{x.in.write("-" + x.name), x.in} }
func (x told) Like(y told) bool {
	what := x.name + "~" + y.name
	x.in.lines = append(x.in.lines, what)
	return what != x.in.unlike
}

// things: a matrix of things of these four names.
func (d *diary) things(names string) mat.Mat[told] {
	n := strings.Fields(names)
	return of(told{n[0], d}, told{n[1], d}, told{n[2], d}, told{n[3], d})
}

// named: a matrix of the things nameA, nameB, nameC, nameD.
func (d *diary) named(name string) mat.Mat[told] {
	return d.things(fmt.Sprintf("%[1]sA %[1]sB %[1]sC %[1]sD", name))
}

// behind: writes what m behind n asks, by the chapter's words.
func (d *diary) behind(m, n mat.Mat[told]) mat.Mat[told] {
	sum := func(a, b, c, e told) told {
		first := d.write(a.name + "*" + b.name)
		second := d.write(c.name + "*" + e.name)
		return told{d.write(first + "+" + second), d}
	}
	var r mat.Mat[told]
	r.A = sum(m.A, n.A, m.B, n.C)
	r.B = sum(m.A, n.B, m.B, n.D)
	r.C = sum(m.C, n.A, m.D, n.C)
	r.D = sum(m.C, n.B, m.D, n.D)
	return r
}

// names: those of a matrix's things.
func names(m mat.Mat[told]) string {
	return strings.Join([]string{m.A.name, m.B.name, m.C.name, m.D.name}, " ")
}

// holds: has a diary these lines, and is this the answer?
func (d *diary) holds(t *testing.T, what, answer, want string, lines ...string) {
	t.Helper()
	if !slices.Equal(d.lines, lines) {
		t.Fatalf("%s asked %.2000v\nnot %.2000v", what, d.lines, lines)
	}
	if answer != want {
		t.Fatalf("%s = %s, not %s", what, answer, want)
	}
}
