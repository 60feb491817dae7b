package tests

import (
	"math"
	"math/big"
	"strconv"
	"testing"

	"loop.example/pinfold/impl"
)

// ratOf is the value of a finite float.
func ratOf(width int, ord int) *big.Rat { return new(big.Rat).SetFloat64(valueOf(width, ord)) }

// bracketOf is the greatest float that is not above a number and the least one that is not below it, found by halving all order numbers.
func bracketOf(width int, r *big.Rat) impl.Pair {
	lo, hi := -topOf(width), topOf(width)
	for lo+1 < hi {
		middle := lo + int((uint64(hi)-uint64(lo))/2)
		switch ratOf(width, middle).Cmp(r) {
		case 0:
			return impl.Pair{Lo: middle, Hi: middle}
		case -1:
			lo = middle
		default:
			hi = middle
		}
	}
	return impl.Pair{Lo: lo, Hi: hi}
}

// nearestOf is the nearest finite float, as math/big rounds.
func nearestOf(width int, r *big.Rat) int {
	var near float64
	if width == 32 {
		narrow, _ := r.Float32()
		near = float64(narrow)
	} else {
		near, _ = r.Float64()
	}
	switch {
	case math.IsInf(near, 1):
		return topOf(width) - 1
	case math.IsInf(near, -1):
		return 1 - topOf(width)
	}
	return ordOf(width, near)
}

// partsOfGap are how far a fraction may lie from one float to the next: at both, close to both, half way, a little to each side of that, and elsewhere.
func partsOfGap() []*big.Rat {
	little := rat(big.NewInt(1), powerOfTwo(3000))
	odd := rat(big.NewInt(1), new(big.Int).Exp(big.NewInt(3), big.NewInt(200), nil))
	half := smallRat(1, 2)
	return []*big.Rat{
		new(big.Rat), little, smallRat(1, 4), smallRat(1, 3), new(big.Rat).Sub(half, odd), new(big.Rat).Sub(half, little),
		half, new(big.Rat).Add(half, little), new(big.Rat).Add(half, odd), smallRat(3, 4), new(big.Rat).Sub(smallRat(1, 1), little), smallRat(1, 1),
	}
}

// ratsFrom are fractions from a float from 0 on to the next one; behind the greatest finite one as far as if there were a next one.
func ratsFrom(width int, ord int) []*big.Rat {
	lo, gap := ratOf(width, ord), new(big.Rat)
	if ord == topOf(width)-1 {
		gap.Sub(lo, ratOf(width, ord-1))
	} else {
		gap.Sub(ratOf(width, ord+1), lo)
	}
	var out []*big.Rat
	for _, part := range partsOfGap() {
		step := new(big.Rat).Mul(gap, part)
		out = append(out, step.Add(step, lo))
	}
	return out
}

// ratsBeyond are above all finite floats of a width, from the nearest on.
func ratsBeyond(width int) []*big.Rat {
	out := ratsFrom(width, topOf(width)-1)[1:]
	for _, power := range []int{128, 129, 1024, 1025, 2000, 2001, 2100, 4095} {
		r := wholeRat(powerOfTwo(power))
		out = append(out, r, new(big.Rat).Sub(r, smallRat(1, 3)), new(big.Rat).Add(r, smallRat(1, 3)))
	}
	out = append(out, wholeRat(mostNat()), rat(mostNat(), big.NewInt(2)), rat(mostNat(), powerOfTwo(1100)))
	greatest := ratOf(width, topOf(width)-1)
	var beyond []*big.Rat
	for _, r := range out {
		if r.Cmp(greatest) > 0 && fitsRat(r) {
			beyond = append(beyond, r)
		}
	}
	return beyond
}

// ratsToRound are fractions of all kinds, on both sides of 0.
func ratsToRound(width int) []*big.Rat {
	out := rats()
	most := mostNat()
	out = append(out, rat(most, moved(most, -1)), rat(moved(most, -1), most), rat(most, powerOfTwo(4000)), rat(powerOfTwo(3000), most), rat(big.NewInt(5), most))
	for at, ord := range sizes(width) {
		if at < 120 && ord < topOf(width) {
			out = append(out, ratsFrom(width, ord)...)
		}
	}
	out = append(out, ratsBeyond(width)...)
	for _, r := range out {
		if r.Sign() > 0 {
			out = append(out, negRat(r))
		}
	}
	return out
}

// aNumber is a short way to tell a fraction in a message: its nearest wide float, and how many bits it has.
func aNumber(r *big.Rat) string {
	near, _ := r.Float64()
	return strconv.FormatFloat(near, 'g', -1, 64) + " of " + strconv.Itoa(r.Num().BitLen()) + " by " + strconv.Itoa(r.Denom().BitLen()) + " bits"
}

// checkRounded holds all that is rounded of a fraction against what math/big tells.
func checkRounded(t *testing.T, width int, r *big.Rat) {
	t.Helper()
	f, want := fracOf(r), bracketOf(width, r)
	if lo, ok := impl.FloatDown(width, f); !ok || lo != want.Lo {
		t.Errorf("%d: FloatDown of %s: %d %v, not %d", width, aNumber(r), lo, ok, want.Lo)
	}
	if hi, ok := impl.FloatUp(width, f); !ok || hi != want.Hi {
		t.Errorf("%d: FloatUp of %s: %d %v, not %d", width, aNumber(r), hi, ok, want.Hi)
	}
	if near, ok := impl.FloatNear(width, f); !ok || near != nearestOf(width, r) {
		t.Errorf("%d: FloatNear of %s: %d %v, not %d", width, aNumber(r), near, ok, nearestOf(width, r))
	}
	if p, ok := impl.PairFrac(width, f); !ok || p != want {
		t.Errorf("%d: PairFrac of %s: %v %v, not %v", width, aNumber(r), p, ok, want)
	}
}
