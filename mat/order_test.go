package mat_test

import (
	"fmt"
	"math"
	"math/bits"
	"strings"
	"testing"

	"polestar/mat"
)

// P8.3: over a ring that tells it: which methods are called, in which order, on what, and what comes of it.
func TestOrderOfMul(t *testing.T) {
	d := &diary{}
	r := mat.Mul(d.things("a b c d"), d.things("e f g h"))
	d.holds(t, "Mul", names(r), "3 6 9 12",
		"1=a*e", "2=b*g", "3=1+2", "4=a*f", "5=b*h", "6=4+5",
		"7=c*e", "8=d*g", "9=7+8", "10=c*f", "11=d*h", "12=10+11")
}

func TestOrderOfDetTraceTurned(t *testing.T) {
	d := &diary{}
	d.holds(t, "Det", mat.Det(d.things("a b c d")).name, "4", "1=a*d", "2=b*c", "3=-2", "4=1+3")
	d = &diary{}
	d.holds(t, "Trace", mat.Trace(d.things("a b c d")).name, "1", "1=a+d")
	d = &diary{}
	d.holds(t, "Turned", names(mat.Turned(d.things("a b c d"))), "d 1 2 a", "1=-b", "2=-c")
}

func TestOrderOfLike(t *testing.T) {
	all := []string{"a~e", "b~f", "c~g", "d~h"}
	for i, unlike := range append(all, "none") {
		d := &diary{unlike: unlike}
		got := mat.Like(d.things("a b c d"), d.things("e f g h"))
		d.holds(t, "Like", fmt.Sprint(got), fmt.Sprint(i == 4), all[:min(i+1, 4)]...)
	}
}

// plan: what a list of steps asks: each, as "r=s r", says that r becomes s behind r.
func plan(steps []string) (*diary, mat.Mat[told]) {
	d := &diary{}
	now := map[string]mat.Mat[told]{}
	for _, name := range []string{"r", "s", "k", "m", "n"} {
		now[name] = d.named(name)
	}
	for _, step := range steps {
		to, from, _ := strings.Cut(step, "=")
		two := strings.Fields(from)
		now[to] = d.behind(now[two[0]], now[two[1]])
	}
	return d, now["r"]
}

// P8.4: the steps of a power, one by one.
func TestOrderOfPower(t *testing.T) {
	for n, steps := range map[uint64][]string{
		0:  {},
		1:  {"r=s r"},
		2:  {"s=s s", "r=s r"},
		3:  {"r=s r", "s=s s", "r=s r"},
		4:  {"s=s s", "s=s s", "r=s r"},
		5:  {"r=s r", "s=s s", "s=s s", "r=s r"},
		6:  {"s=s s", "r=s r", "s=s s", "r=s r"},
		10: {"s=s s", "r=s r", "s=s s", "s=s s", "r=s r"},
		13: {"r=s r", "s=s s", "s=s s", "r=s r", "s=s s", "r=s r"},
	} {
		asked(t, n, steps)
	}
}

// P8.4: powers with the highest bits, the greatest one among them.
func TestOrderOfGreatPowers(t *testing.T) {
	for _, n := range []uint64{1 << 31, 1<<32 - 1, 1 << 32, 1<<32 + 1, 1 << 62, 1 << 63, 1<<63 | 1, math.MaxInt64, math.MaxUint64 - 1, math.MaxUint64, 0xaaaaaaaaaaaaaaaa} {
		var steps []string
		for i := range bits.Len64(n) {
			if i > 0 {
				steps = append(steps, "s=s s")
			}
			if n>>i&1 == 1 {
				steps = append(steps, "r=s r")
			}
		}
		asked(t, n, steps)
	}
}

// asked: are these the steps of the power n?
func asked(t *testing.T, n uint64, steps []string) {
	t.Helper()
	want, answer := plan(steps)
	d := &diary{}
	r := mat.Power(d.named("r"), d.named("s"), n)
	d.holds(t, fmt.Sprintf("Power %d", n), names(r), names(answer), want.lines...)
}

// P8.4: matrix by matrix, each behind what there is.
func TestOrderOfChain(t *testing.T) {
	for i, steps := range [][]string{{}, {"r=k r"}, {"r=k r", "r=m r"}, {"r=k r", "r=m r", "r=n r"}} {
		want, answer := plan(steps)
		d := &diary{}
		l := []mat.Mat[told]{d.named("k"), d.named("m"), d.named("n")}
		r := mat.Chain(d.named("r"), l[:i]...)
		d.holds(t, "Chain", names(r), names(answer), want.lines...)
	}
}
