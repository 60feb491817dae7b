package tests

import (
	"math"
	"math/big"
	"slices"
	"strconv"
	"strings"
	"testing"

	"loop.example/pinfold/impl"
)

// literalsToRound are literals that are floats, that are none, and with powers to both limits.
func literalsToRound() []string {
	out := []string{
		"0", "0.0", "0e400", "0e-400", "1", "1.0", "1e0", "0.5", "0.1", "0.2", "0.3", "1.5", "3", "10", "16777216", "16777217", "9007199254740992", "9007199254740993", "5e-1", "2.5e-1", "1.25e2",
		"1e400", "1e-400", "9e400", "9e-400", "9.99e400", "9.99e-400", "0.001e400", "0.001e-400", "1e399", "1e-399", strings.Repeat("9", 56) + "e400", strings.Repeat("9", 55) + "e-400", "0." + strings.Repeat("0", 52) + "1e-400",
		"3.4028234663852886e38", "3.40282346638528859811704183484516925440e38", "3.4028235677973366e38", "3.5e38", "1e38", "1e39", "1.7976931348623157e308", "1.8e308", "1e308", "1e309",
		"1.401298464324817e-45", "7e-46", "7.1e-46", "1.1754943508222875e-38", "1e-45", "1e-46", "4.9406564584124654e-324", "2e-324", "2.5e-324", "2.2250738585072014e-308", "1e-323", "1e-324",
		"0.33333333333333333333333333333333333333333333333333333333", strings.Repeat("7", 60), "123456789.987654321e-30",
	}
	for at, text := range manyLiterals() {
		if at%11 == 0 {
			out = append(out, text)
		}
	}
	return out
}

// Promise 37 of literals: its value lies in its pair, whose bounds are one or next to one another.
func TestPairsOfLiterals(t *testing.T) {
	for _, width := range bothWidths() {
		for _, text := range literalsToRound() {
			value, is := new(big.Rat).SetString(text)
			f, isLiteral := impl.DecFrac(text)
			if !is || !isLiteral {
				t.Fatalf("%q is no literal", text)
			}
			p, ok := impl.PairDec(width, text)
			if want := bracketOf(width, value); !ok || p != want || !impl.PairOk(width, p) || p.Hi-p.Lo > 1 {
				t.Errorf("%d: PairDec of %q: %v %v, not %v", width, text, p, ok, want)
			}
			if same, _ := impl.PairFrac(width, f); same != p || !impl.PairHas(width, p, f) {
				t.Errorf("%d: %q does not lie in its pair %v, or not in %v", width, text, p, same)
			}
			checkRounded(t, width, value)
			// strconv rounds to the nearest float, too, but goes on to the infinite one.
			near, _ := impl.FloatNear(width, f)
			if v, err := strconv.ParseFloat(text, width); err == nil && near != ordOf(width, v) {
				t.Errorf("%d: %q is near %d, not %d", width, text, near, ordOf(width, v))
			}
		}
	}
}

func TestPairsOfLiteralsByPatterns(t *testing.T) {
	for _, row := range []struct {
		width  int
		text   string
		lo, hi int
	}{
		{32, "0", 0, 0}, {64, "0.000e-400", 0, 0}, {32, "1", 0x3f800000, 0x3f800000}, {64, "0.5", 1022 << 52, 1022 << 52}, {64, "10e-1", 1023 << 52, 1023 << 52},
		{32, "0.1", 0x3dcccccc, 0x3dcccccd}, {64, "0.1", 0x3fb9999999999999, 0x3fb999999999999a}, {32, "16777217", 0x4b800000, 0x4b800001}, {64, "16777217", 0x4170000010000000, 0x4170000010000000},
		{32, "1e400", narrowTop - 1, narrowTop}, {64, "1e400", wideTop - 1, wideTop}, {32, "1e-400", 0, 1}, {64, "1e-400", 0, 1}, {32, "1e39", narrowTop - 1, narrowTop}, {64, "1e309", wideTop - 1, wideTop}, {32, "1e-46", 0, 1}, {64, "1e-324", 0, 1},
		{32, "340282346638528859811704183484516925440", narrowTop - 1, narrowTop - 1}, {32, "340282346638528859811704183484516925441", narrowTop - 1, narrowTop}, {32, "340282346638528859811704183484516925439", narrowTop - 2, narrowTop - 1},
	} {
		if p, ok := impl.PairDec(row.width, row.text); !ok || p != (impl.Pair{Lo: row.lo, Hi: row.hi}) {
			t.Errorf("%d: PairDec of %q: %v %v", row.width, row.text, p, ok)
		}
	}
}

func TestPairsOfWrongLiterals(t *testing.T) {
	for _, text := range append(noLiterals(), "-0.1", "-1e400", "1e401", "1e-401", "Infinity", "+Inf") {
		for _, width := range append(wrongWidths(), bothWidths()...) {
			if p, ok := impl.PairDec(width, text); ok || p != (impl.Pair{}) {
				t.Errorf("%d: PairDec of %q: %v %v", width, text, p, ok)
			}
		}
	}
	for _, width := range wrongWidths() {
		for _, text := range []string{"0", "1", "0.1", "1e400", "1e-400"} {
			if p, ok := impl.PairDec(width, text); ok || p != (impl.Pair{}) {
				t.Errorf("%d: PairDec of %q: %v %v", width, text, p, ok)
			}
		}
	}
}

// Promise 37 of fractions: each lies in its pair.
func TestFractionsLieInTheirPairs(t *testing.T) {
	for _, width := range bothWidths() {
		for at, r := range ratsToRound(width) {
			if at%4 != 0 {
				continue
			}
			f := fracOf(r)
			p, ok := impl.PairFrac(width, f)
			if !ok || !impl.PairOk(width, p) || p.Hi != p.Lo && p.Hi != p.Lo+1 || !impl.PairHas(width, p, f) {
				t.Errorf("%d: %s has the pair %v %v", width, aNumber(r), p, ok)
			}
		}
	}
}

// isWithin says whether a number lies in an ok pair, told by the values of its bounds.
func isWithin(width int, p impl.Pair, r *big.Rat) bool {
	top := topOf(width)
	return (p.Lo == -top || ratOf(width, p.Lo).Cmp(r) <= 0) && (p.Hi == top || ratOf(width, p.Hi).Cmp(r) >= 0)
}

// ratsBeside are numbers at a bound, and a little to each side of it; of an infinite bound those beyond all finite floats.
func ratsBeside(width int, bound int) []*big.Rat {
	if kind := impl.BitKindOf(width, bound); kind == impl.BitInfinite {
		far := wholeRat(powerOfTwo(2000))
		near := new(big.Rat).Add(greatestOf(width), smallRat(1, 7))
		if bound < 0 {
			return []*big.Rat{negRat(far), negRat(near), negRat(greatestOf(width))}
		}
		return []*big.Rat{far, near, greatestOf(width)}
	}
	at := ratOf(width, bound)
	out := []*big.Rat{at}
	for _, little := range []*big.Rat{rat(big.NewInt(1), powerOfTwo(3000)), ratOf(width, 1), smallRat(1, 3)} {
		out = append(out, new(big.Rat).Sub(at, little), new(big.Rat).Add(at, little))
	}
	return out
}

func TestFractionsInPairs(t *testing.T) {
	for _, width := range bothWidths() {
		for _, p := range okPairs(width) {
			row := append(ratsBeside(width, p.Lo), ratsBeside(width, p.Hi)...)
			for _, r := range append(row, new(big.Rat), smallRat(1, 1), smallRat(-1, 1)) {
				if want := isWithin(width, p, r); impl.PairHas(width, p, fracOf(r)) != want {
					t.Errorf("%d: PairHas of %v and %s is not %v", width, p, aNumber(r), want)
				}
			}
		}
	}
}

func TestFractionsAtTheBoundsOfPairs(t *testing.T) {
	for _, width := range bothWidths() {
		top := topOf(width)
		one := ordOf(width, 1)
		most := fracOf(wholeRat(mostNat()))
		least := fracOf(negRat(wholeRat(mostNat())))
		greatest := fracOf(greatestOf(width))
		beyond, isBeyond := impl.FracAdd(greatest, fracOf(rat(big.NewInt(1), powerOfTwo(2000))))
		little, isLittle := impl.FracOf(false, []int{1}, natOf(mostNat()))
		under, isUnder := impl.FracNeg(little)
		if !isBeyond || !isLittle || !isUnder {
			t.Fatal("no such fractions")
		}
		zero := impl.FracInt(0)
		for _, row := range []struct {
			p    impl.Pair
			f    impl.Frac
			want bool
		}{
			{impl.Pair{Lo: -top, Hi: top}, most, true}, {impl.Pair{Lo: -top, Hi: top}, least, true}, {impl.Pair{Lo: -top, Hi: top}, zero, true},
			{impl.Pair{Lo: 0, Hi: top}, most, true}, {impl.Pair{Lo: 0, Hi: top}, least, false}, {impl.Pair{Lo: 0, Hi: top}, zero, true}, {impl.Pair{Lo: 0, Hi: top}, under, false}, {impl.Pair{Lo: 0, Hi: top}, little, true},
			{impl.Pair{Lo: -top, Hi: 0}, least, true}, {impl.Pair{Lo: -top, Hi: 0}, most, false}, {impl.Pair{Lo: -top, Hi: 0}, zero, true}, {impl.Pair{Lo: -top, Hi: 0}, under, true}, {impl.Pair{Lo: -top, Hi: 0}, little, false},
			{impl.Pair{Lo: 0, Hi: 0}, zero, true}, {impl.Pair{Lo: 0, Hi: 0}, little, false}, {impl.Pair{Lo: 0, Hi: 0}, under, false},
			{impl.Pair{Lo: one, Hi: one}, impl.FracInt(1), true}, {impl.Pair{Lo: one, Hi: one}, impl.FracInt(-1), false}, {impl.Pair{Lo: -one, Hi: one}, impl.FracInt(-1), true},
			{impl.Pair{Lo: 1 - top, Hi: top - 1}, greatest, true}, {impl.Pair{Lo: 1 - top, Hi: top - 1}, beyond, false}, {impl.Pair{Lo: 1 - top, Hi: top - 1}, most, false}, {impl.Pair{Lo: 1 - top, Hi: top - 1}, least, false},
			{impl.Pair{Lo: top - 1, Hi: top}, greatest, true}, {impl.Pair{Lo: top - 1, Hi: top}, beyond, true}, {impl.Pair{Lo: top - 1, Hi: top}, zero, false}, {impl.Pair{Lo: -top, Hi: 1 - top}, least, true}, {impl.Pair{Lo: -top, Hi: 1 - top}, greatest, false},
			{impl.Pair{Lo: 1, Hi: 5}, zero, false}, {impl.Pair{Lo: 1, Hi: 5}, little, false}, {impl.Pair{Lo: 0, Hi: 1}, little, true},
		} {
			if impl.PairHas(width, row.p, row.f) != row.want {
				t.Errorf("%d: PairHas of %v and %.40s is not %v", width, row.p, impl.FracText(row.f), row.want)
			}
		}
	}
}

func TestWrongPairsHaveNothing(t *testing.T) {
	points := []impl.Frac{impl.FracInt(0), impl.FracInt(1), impl.FracInt(-1), fracOf(wholeRat(mostNat())), fracOf(smallRat(1, 3))}
	for _, width := range bothWidths() {
		all := impl.Pair{Lo: -topOf(width), Hi: topOf(width)}
		for _, p := range wrongPairs(width) {
			for _, f := range points {
				if impl.PairHas(width, p, f) {
					t.Errorf("%d: %v has %v", width, p, f)
				}
			}
		}
		for _, f := range wrongFracs() {
			if impl.PairHas(width, all, f) || impl.PairHas(width, impl.Pair{}, f) {
				t.Errorf("%d: a pair has %v", width, f)
			}
		}
	}
	for _, width := range wrongWidths() {
		for _, p := range []impl.Pair{{}, {Lo: -1, Hi: 1}, {Lo: -narrowTop, Hi: narrowTop}, {Lo: -wideTop, Hi: wideTop}, {Lo: math.MinInt, Hi: math.MaxInt}} {
			for _, f := range points {
				if impl.PairHas(width, p, f) {
					t.Errorf("width %d: %v has %v", width, p, f)
				}
			}
		}
	}
	if impl.PairHas(32, impl.Pair{Lo: 0, Hi: wideTop}, impl.FracInt(0)) {
		t.Error("a wide pair among the narrow ones")
	}
}

// pointIn is a point of a box: a bound of each coordinate that is finite, or 0.
func pointIn(width int, b impl.Box, upper bool) []*big.Rat {
	var out []*big.Rat
	for _, p := range b.Pairs {
		bounds := []int{p.Lo, p.Hi}
		if upper {
			slices.Reverse(bounds)
		}
		at := new(big.Rat)
		for _, bound := range bounds {
			if kind := impl.BitKindOf(width, bound); kind != impl.BitInfinite {
				at = ratOf(width, bound)
				break
			}
		}
		out = append(out, at)
	}
	return out
}

func fracsOf(point []*big.Rat) []impl.Frac {
	var out []impl.Frac
	for _, r := range point {
		out = append(out, fracOf(r))
	}
	return out
}

// A box has a point just if each pair has its fraction: a single one that is beyond its bounds is enough.
func TestPointsInBoxes(t *testing.T) {
	for _, width := range bothWidths() {
		for at, b := range boxes(width) {
			if at%4 != 0 {
				continue
			}
			for _, upper := range []bool{false, true} {
				point := pointIn(width, b, upper)
				if !impl.BoxHas(width, b, fracsOf(point)) {
					t.Fatalf("%d: %v has not its own bounds", width, b)
				}
				for coordinate, p := range b.Pairs {
					for _, r := range append(ratsBeside(width, p.Lo), ratsBeside(width, p.Hi)...) {
						other := slices.Clone(point)
						other[coordinate] = r
						if want := isWithin(width, p, r); impl.BoxHas(width, b, fracsOf(other)) != want {
							t.Fatalf("%d: BoxHas of %v, with %s at %d, is not %v", width, b, aNumber(r), coordinate, want)
						}
					}
				}
			}
		}
	}
}

// There are as many fractions as pairs, and each stands at its own place.
func TestPointsOfOtherNumbersOfCoordinates(t *testing.T) {
	for _, width := range bothWidths() {
		one, two, three := ordOf(width, 1), ordOf(width, 2), ordOf(width, 3)
		b := impl.Box{Pairs: []impl.Pair{{Lo: one, Hi: two}, {Lo: two, Hi: three}, {Lo: 0, Hi: 0}}}
		point := []impl.Frac{impl.FracInt(1), impl.FracInt(3), impl.FracInt(0)}
		if !impl.BoxHas(width, b, point) {
			t.Errorf("%d: %v has not %v", width, b, point)
		}
		for _, other := range [][]impl.Frac{
			nil, {}, point[:1], point[:2], append(slices.Clone(point), impl.FracInt(0)), append(slices.Clone(point), impl.Frac{}), slices.Repeat(point, 2), {point[1], point[0], point[2]}, {point[2], point[1], point[0]}, {point[0], point[2], point[1]},
		} {
			if impl.BoxHas(width, b, other) {
				t.Errorf("%d: %v has %v", width, b, other)
			}
		}
		six := impl.Box{Pairs: slices.Repeat([]impl.Pair{{Lo: -one, Hi: one}}, 6)}
		for count := range 9 {
			if got := impl.BoxHas(width, six, slices.Repeat([]impl.Frac{impl.FracInt(1)}, count)); got != (count == 6) {
				t.Errorf("%d: six pairs have a point of %d: %v", width, count, got)
			}
		}
	}
}

func TestWrongBoxesHaveNothing(t *testing.T) {
	for _, width := range bothWidths() {
		for _, b := range wrongBoxes(width) {
			if impl.BoxHas(width, b, slices.Repeat([]impl.Frac{impl.FracInt(0)}, len(b.Pairs))) {
				t.Errorf("%d: %v has a point", width, b)
			}
		}
		all := impl.Box{Pairs: slices.Repeat([]impl.Pair{{Lo: -topOf(width), Hi: topOf(width)}}, 3)}
		for _, f := range wrongFracs() {
			for at := range all.Pairs {
				point := slices.Repeat([]impl.Frac{impl.FracInt(0)}, 3)
				point[at] = f
				if impl.BoxHas(width, all, point) {
					t.Errorf("%d: a box has %v", width, f)
				}
			}
		}
		if impl.BoxHas(width, impl.Box{}, nil) {
			t.Errorf("%d: a box of no pairs has a point", width)
		}
	}
	for _, width := range wrongWidths() {
		if impl.BoxHas(width, impl.Box{Pairs: []impl.Pair{{}}}, []impl.Frac{impl.FracInt(0)}) || impl.BoxHas(width, impl.Box{Pairs: []impl.Pair{{Lo: -5, Hi: 5}}}, []impl.Frac{impl.FracInt(0)}) {
			t.Errorf("a box of width %d has a point", width)
		}
	}
}
