package round_test

import (
	"math"
	"math/big"
	"math/rand"
	"slices"
	"testing"

	"polestar/api"
	"polestar/round"
)

// ask: Frac of a fraction and of the one with the other sign.
func ask(t *testing.T, x *big.Rat) {
	t.Helper()
	for _, x := range []*big.Rat{x, neg(x)} {
		down, up, errno := round.Frac(of(x))
		own, _ := x.Float64()
		about(t, "Frac", down, up, own+0, against(x)) // plus nought makes minus nought plus
		if errno != api.OK {
			t.Fatalf("Frac(%v): %v", x, errno)
		}
	}
}

// P4.4: floats, and what lies beside them: next to them, and halfway to the next one.
func TestFracOfFloats(t *testing.T) {
	l := edges()
	r := rand.New(rand.NewSource(44))
	for range 1500 {
		l = append(l, some(r, -1080, 1023))
	}
	hair := power(-1300)
	for _, v := range l {
		if !finite(v) || math.Signbit(v) {
			continue
		}
		x := worth(v)
		ask(t, x)
		ask(t, add(x, hair))
		ask(t, sub(x, hair))
		if v == most {
			continue
		}
		half := add(x, worth(math.Nextafter(v, infinity)))
		half.Quo(half, big.NewRat(2, 1))
		ask(t, half)
		ask(t, add(half, hair))
		ask(t, sub(half, hair))
	}
}

// P4.4: beyond the floats, and below the least one; as great as may be.
func TestFracFar(t *testing.T) {
	last := sub(power(32*api.MaxLimbs), power(0))
	high := power(32*api.MaxLimbs - 1)
	for _, x := range []*big.Rat{
		worth(most), add(worth(most), power(-2000)), add(worth(most), power(970)), sub(power(1024), power(-2000)), power(1024), add(power(1024), power(0)), power(4000),
		last, high, new(big.Rat).Inv(last), new(big.Rat).Inv(high), new(big.Rat).Quo(last, high), new(big.Rat).Quo(high, last),
		power(-1074), power(-1075), power(-1076), add(power(-1075), power(-3000)), sub(power(-1074), power(-3000)), power(-4000),
	} {
		ask(t, x)
	}
}

// P4.4: of whatever fractions.
func TestFracs(t *testing.T) {
	r := rand.New(rand.NewSource(45))
	for range 6000 {
		num, den := new(big.Int).Rand(r, power(1+r.Intn(1300)).Num()), new(big.Int).Rand(r, power(1+r.Intn(1300)).Num())
		ask(t, new(big.Rat).SetFrac(num, den.Add(den, big.NewInt(1))))
		ask(t, big.NewRat(r.Int63n(2000), 1+r.Int63n(2000)))
	}
}

// P4.4: fractions that may not be.
func TestFracWrong(t *testing.T) {
	one := api.Int{Mag: []uint32{1}}
	long := api.Int{Mag: make([]uint32, api.MaxLimbs+1)}
	long.Mag[api.MaxLimbs] = 1
	for i, x := range []api.Frac{
		{}, {Num: one}, {Den: one, Num: api.Int{Neg: true}}, {Num: one, Den: api.Int{Neg: true, Mag: []uint32{2}}},
		{Den: api.Int{Mag: []uint32{2}}}, {Num: api.Int{Mag: []uint32{2}}, Den: api.Int{Mag: []uint32{4}}},
		{Num: api.Int{Mag: []uint32{3, 0}}, Den: one}, {Num: one, Den: api.Int{Mag: []uint32{3, 0}}}, {Num: one, Den: api.Int{Mag: []uint32{0}}},
		{Num: long, Den: one}, {Num: one, Den: long}, {Num: long, Den: long},
	} {
		down, up, errno := round.Frac(x)
		if twice(t, "Frac", down, up, 0); errno != api.ErrArg {
			t.Errorf("fraction %d that may not be: %v", i, errno)
		}
	}
}

// R4: what is handed in stays as it is, its spare room too.
func TestMemory(t *testing.T) {
	for _, x := range []*big.Rat{new(big.Rat), big.NewRat(-1, 3), big.NewRat(5, 4), power(1100), neg(power(-1100))} {
		f := of(x)
		var lists, was [][]uint32
		for _, l := range []*[]uint32{&f.Num.Mag, &f.Den.Mag} {
			room := append(slices.Clone(*l), 11, 12, 13)
			*l = room[:len(*l)]
			lists, was = append(lists, room), append(was, slices.Clone(room))
		}
		round.Frac(f)
		for i := range lists {
			if !slices.Equal(lists[i], was[i]) {
				t.Errorf("Frac(%v) has changed what it was given", x)
			}
		}
	}
}
