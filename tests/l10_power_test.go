package tests

import (
	"math"
	"math/big"
	"testing"

	"loop.example/pinfold/impl"
)

// powerCase is a power that goes back, and what is to be left of x.
type powerCase struct {
	z     impl.Span
	power int
	x     impl.Span
	want  impl.Span
}

func checkPowerCases(t *testing.T, width int, cases []powerCase) {
	t.Helper()
	for _, row := range cases {
		checkBack(t, width, "BackPow", row.z, single(row.power), row.x, impl.BackPow(width, row.z, row.power, row.x), row.want)
	}
}

func TestPowersOfNoughtAndOneGoBack(t *testing.T) {
	for _, width := range bothWidths() {
		n := numbersOf(width)
		none := impl.Span{}
		some := n.at(-10, 3)
		checkPowerCases(t, width, []powerCase{
			// The power of 0 is 1 of every number: x stays, or nothing does.
			{n.at(1, 1), 0, some, some}, {n.at(0.5, 2), 0, some, some}, {n.at(-1, 1), 0, some, some}, {n.at(1, 2), 0, single(0), single(0)}, {n.all(), 0, n.all(), n.all()}, {n.from(1), 0, n.upTo(0), n.upTo(0)}, {n.upTo(1), 0, some, some},
			{n.at(2, 3), 0, some, none}, {n.at(-1, 0.5), 0, some, none}, {single(0), 0, single(0), none}, {spanOf(n.one+1, n.top), 0, some, none}, {spanOf(-n.top, n.one-1), 0, some, none}, {n.at(-1, -1), 0, some, none},
			// The power of 1 is the number itself.
			{n.at(-2, 3), 1, n.at(-10, 1), n.at(-2, 1)}, {n.at(5, 6), 1, n.at(0, 1), none}, {n.all(), 1, some, some}, {n.upTo(-1), 1, some, n.at(-10, -1)}, {n.from(1), 1, some, n.at(1, 3)}, {n.upTo(-1), 1, n.all(), n.upTo(-1)},
			{single(1), 1, n.all(), single(1)}, {single(-1), 1, n.all(), single(-1)}, {spanOf(3, 5), 1, n.all(), spanOf(3, 5)}, {single(n.top - 1), 1, n.all(), single(n.top - 1)}, {single(1 - n.top), 1, n.all(), single(1 - n.top)}, {single(0), 1, n.all(), single(0)}, {spanOf(n.top-1, n.top), 1, n.all(), spanOf(n.top-1, n.top)}, {spanOf(-n.top, 1-n.top), 1, n.all(), spanOf(-n.top, 1-n.top)},
		})
	}
}

func TestOddPowersGoBack(t *testing.T) {
	for _, width := range bothWidths() {
		n := numbersOf(width)
		none := impl.Span{}
		wide := n.at(-10, 10)
		checkPowerCases(t, width, []powerCase{
			// z below 0, around it, above it.
			{n.at(-27, -8), 3, wide, n.at(-3, -2)}, {n.at(-27, -8), 3, n.at(0, 10), none}, {n.at(-27, -8), 3, n.at(-2, 10), n.at(-2, -2)}, {n.at(-8, 27), 3, wide, n.at(-2, 3)}, {n.at(-8, 27), 3, n.at(-10, 1), n.at(-2, 1)}, {n.at(8, 27), 3, wide, n.at(2, 3)}, {n.at(8, 27), 3, n.at(-10, 0), none}, {n.at(0, 8), 3, wide, n.at(0, 2)}, {n.at(-8, 0), 3, wide, n.at(-2, 0)}, {single(0), 3, wide, single(0)},
			{n.at(-32, 243), 5, wide, n.at(-2, 3)}, {n.at(-243, -32), 5, wide, n.at(-3, -2)}, {n.at(-128, 2187), 7, wide, n.at(-2, 3)}, {n.at(-2187, -128), 7, wide, n.at(-3, -2)}, {n.at(-1, 1), 7, wide, n.at(-1, 1)}, {n.at(0.125, 0.125), 3, wide, n.at(0.5, 0.5)},
			// Without a bound on either side.
			{n.upTo(-8), 3, n.all(), n.upTo(-2)}, {n.from(8), 3, n.all(), n.from(2)}, {n.from(-8), 3, n.all(), n.from(-2)}, {n.upTo(8), 3, wide, n.at(-10, 2)}, {n.all(), 3, n.all(), n.all()}, {n.all(), 7, wide, wide}, {n.upTo(0), 5, wide, n.at(-10, 0)}, {n.from(0), 5, wide, n.at(0, 10)},
		})
	}
}

func TestEvenPowersGoBack(t *testing.T) {
	for _, width := range bothWidths() {
		n := numbersOf(width)
		none := impl.Span{}
		wide := n.at(-10, 10)
		checkPowerCases(t, width, []powerCase{
			// z below 0 throughout, ending at 0, beginning below 0.
			{n.at(-9, -4), 2, wide, none}, {n.upTo(-1), 8, n.all(), none}, {single(-1), 2, n.all(), none}, {n.at(-9, 0), 2, wide, single(0)}, {n.upTo(0), 8, n.all(), single(0)}, {single(0), 4, n.all(), single(0)}, {n.at(-9, 0), 2, n.at(1, 10), none}, {n.at(-9, 4), 2, wide, n.at(-2, 2)}, {n.at(-9, 4), 2, n.at(-10, 1), n.at(-2, 1)}, {n.at(-9, 4), 2, n.at(1, 10), n.at(1, 2)}, {n.at(-9, 4), 2, n.at(3, 10), none}, {n.upTo(4), 2, n.all(), n.at(-2, 2)}, {n.at(0, 4), 2, wide, n.at(-2, 2)},
			// x meets the roots above 0, those below 0, both, or none.
			{n.at(4, 9), 2, n.at(-1, 10), n.at(2, 3)}, {n.at(4, 9), 2, n.at(-10, 1), n.at(-3, -2)}, {n.at(4, 9), 2, wide, n.at(-3, 3)}, {n.at(4, 9), 2, n.at(-1, 1), none}, {n.at(4, 9), 2, n.at(4, 10), none}, {n.at(4, 9), 2, n.at(-10, -4), none}, {n.at(4, 9), 2, n.at(-2, 2), n.at(-2, 2)}, {n.at(4, 9), 2, n.at(-2, 1), n.at(-2, -2)}, {n.at(4, 9), 2, n.at(-1, 2), n.at(2, 2)}, {n.at(4, 9), 2, n.at(-2.5, 2.75), n.at(-2.5, 2.75)}, {n.at(4, 9), 2, single(0), none},
			{n.at(16, 81), 4, wide, n.at(-3, 3)}, {n.at(16, 81), 4, n.at(0, 10), n.at(2, 3)}, {n.at(64, 729), 6, n.at(-10, 0), n.at(-3, -2)}, {n.at(256, 6561), 8, n.at(0, 10), n.at(2, 3)}, {n.at(256, 6561), 8, n.at(-2.5, 1), n.at(-2.5, -2)},
			// Without a bound.
			{n.from(4), 2, n.all(), n.all()}, {n.from(4), 2, n.at(-3, 1), n.at(-3, -2)}, {n.from(4), 2, n.from(-1), n.from(2)}, {n.from(256), 8, n.upTo(1), n.upTo(-2)}, {n.all(), 2, wide, wide}, {n.all(), 8, n.all(), n.all()}, {n.from(-4), 6, wide, wide},
		})
	}
}

// rootBounds are bounds from 0 on that roots are taken of: the least and the greatest floats, powers of floats and floats beside these, and some all over a width.
func rootBounds(width int, n int) []int {
	top := topOf(width)
	out := []int{0, 1, 2, 3, 1 << fractionOf(width), top - 2, top - 1}
	for _, base := range []float64{0.375, 0.5, 0.75, 1, 1.25, 1.5, 2, 3, 5, 7, 1 << 10} {
		power := ordOf(width, math.Pow(base, float64(n)))
		out = append(out, power-1, power, power+1)
	}
	s := spread{uint64(width + n)}
	for range 25 {
		out = append(out, int(s.next()%uint64(top)))
	}
	return out
}

// Each bound of the roots is the last float on its side whose power tells so, whatever the bound.
func TestRootsOfBoundsAreNextToThem(t *testing.T) {
	for _, width := range bothWidths() {
		for n := 1; n <= impl.SpanMaxPower; n++ {
			for _, bound := range rootBounds(width, n) {
				rootsLeft(t, width, single(bound), n)
				rootsLeft(t, width, spanOf(bound, topOf(width)), n)
				rootsLeft(t, width, spanOf(-topOf(width), bound), n)
				if n%2 == 1 {
					rootsLeft(t, width, single(-bound), n)
					rootsLeft(t, width, spanOf(-bound, topOf(width)), n)
				}
			}
		}
	}
}

// A bound that is just a power has one float as its root; the floats beside it have two.
func TestRootsOfPowersAreFloats(t *testing.T) {
	for _, width := range bothWidths() {
		for n := 2; n <= impl.SpanMaxPower; n++ {
			for _, base := range []int64{1, 2, 3, 5, 6, 7} {
				power := ordOf(width, math.Pow(float64(base), float64(n)))
				root := ordOf(width, float64(base))
				checkSpan(t, width, "a root", single(power), single(n), impl.BackPow(width, single(power), n, spanOf(0, topOf(width))), single(root))
				checkSpan(t, width, "a root", single(power+1), single(n), impl.BackPow(width, single(power+1), n, spanOf(0, topOf(width))), spanOf(root, root+1))
				checkSpan(t, width, "a root", single(power-1), single(n), impl.BackPow(width, single(power-1), n, spanOf(0, topOf(width))), spanOf(root-1, root))
			}
		}
	}
}

// Powers of two go from the least float to the greatest ones, and have roots that are powers of two, or none that are floats.
func TestRootsOfPowersOfTwo(t *testing.T) {
	t.Parallel()
	for _, width := range bothWidths() {
		found := 0
		for power := -leastPower(width); power <= 1023; power++ {
			value, isFloat := madeOf(width, new(big.Float).SetMantExp(big.NewFloat(1), power))
			if !isFloat {
				continue
			}
			found++
			for n := 2; n <= impl.SpanMaxPower; n++ {
				if got := rootsLeft(t, width, single(value), n); (got.Lo == got.Hi) != (power%n == 0) {
					t.Errorf("%d: root %d of 2 to the power of %d: %v", width, n, power, got)
				}
			}
		}
		if found != topOf(width)>>fractionOf(width)-1+fractionOf(width) {
			t.Errorf("%d: %d powers of two", width, found)
		}
	}
}

// Over spans of all kinds: x met with the roots, and with those below 0, if the power is even.
func TestPowersGoBackByRoots(t *testing.T) {
	t.Parallel()
	for _, width := range bothWidths() {
		narrowed := spansToNarrow(width)
		for _, z := range spansToAsk(width, 1, 60) {
			for n := 1; n <= impl.SpanMaxPower; n++ {
				roots := rootsLeft(t, width, z, n)
				for _, x := range narrowed {
					want := common(x, roots)
					if n%2 == 0 {
						want = leftOf(x, roots, mirrored(roots))
					}
					checkBack(t, width, "BackPow", z, single(n), x, impl.BackPow(width, z, n, x), want)
				}
			}
			for _, x := range narrowed {
				want := impl.Span{}
				if one := ordOf(width, 1); z.Lo <= one && one <= z.Hi {
					want = x
				}
				checkBack(t, width, "BackPow", z, single(0), x, impl.BackPow(width, z, 0, x), want)
			}
		}
	}
}

// cubeRootNear is an odd number of so many bits at most whose cube, and more, ends in as many noughts, found bit by bit; more is odd.
func cubeRootNear(bits int, more int64) *big.Int {
	y := big.NewInt(1)
	for bit := 1; bit < bits; bit++ {
		near := new(big.Int).Exp(y, big.NewInt(3), nil)
		if near.Add(near, big.NewInt(more)).Bit(bit) == 1 {
			y.SetBit(y, bit, 1)
		}
	}
	return y
}

// Roots that lie next to a float, nearer than many more bits than a float has can tell.
func TestRootsGoBackNextToFloats(t *testing.T) {
	for _, width := range bothWidths() {
		for _, more := range []int64{1, 3, 5, 7, -3, -5, -7} {
			y := cubeRootNear((fractionOf(width)+1)/2, more)
			near := new(big.Int).Exp(y, big.NewInt(3), nil)
			z, isFloat := madeOf(width, new(big.Float).SetInt(near.Add(near, big.NewInt(more))))
			if !isFloat || y.BitLen() < 8 {
				t.Fatalf("%d: %v is no float, or %v is too short", width, near, y)
			}
			root, _ := madeOf(width, new(big.Float).SetInt(y))
			if more < 0 {
				root--
			}
			all := spanOf(-topOf(width), topOf(width))
			checkSpan(t, width, "a root", single(z), all, impl.BackPow(width, single(z), 3, all), spanOf(root, root+1))
			checkSpan(t, width, "a root", single(-z), all, impl.BackPow(width, single(-z), 3, all), spanOf(-root-1, -root))
		}
	}
	for _, more := range []uint64{7, 15, 23, 1<<20 + 7} {
		y := oddRoot(more)
		near := new(big.Int).Exp(new(big.Int).SetUint64(y), big.NewInt(2), nil)
		z, isFloat := madeOf(64, new(big.Float).SetInt(near.Add(near, new(big.Int).SetUint64(more))))
		if !isFloat {
			t.Fatalf("%v is no float", near)
		}
		root := ordOf(64, float64(y))
		checkSpan(t, 64, "a root", single(z), single(2), impl.BackPow(64, single(z), 2, spanOf(0, wideTop)), spanOf(root, root+1))
		checkSpan(t, 64, "a root", single(z), single(2), impl.BackPow(64, single(z), 2, spanOf(-wideTop, 0)), spanOf(-root-1, -root))
	}
	// A little less, and a little more, than the powers of 2^52 + 1, as near as a float comes.
	for n := 2; n <= impl.SpanMaxPower; n++ {
		power := new(big.Int).Exp(moved(powerOfTwo(52), 1), big.NewInt(int64(n)), nil)
		around := besides(64, wholeRat(power))
		rootsLeft(t, 64, single(around.Lo), n)
		rootsLeft(t, 64, single(around.Hi), n)
		rootsLeft(t, 64, spanOf(around.Lo, around.Hi), n)
	}
}
