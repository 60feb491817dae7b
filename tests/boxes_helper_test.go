package tests

import (
	"math"
	"math/big"
	"slices"

	"loop.example/pinfold/impl"
)

// point is a real number: the value of a float, or, over it, one between this float and the next one.
type point struct {
	ord  int
	over bool
}

// has says whether a pair has a real number.
func has(p impl.Pair, x point) bool {
	if x.over {
		return p.Lo <= x.ord && x.ord < p.Hi
	}
	return p.Lo <= x.ord && x.ord <= p.Hi
}

// inGap says whether a real number lies above the value of Lo and below that of Hi.
func inGap(gap impl.Pair, x point) bool {
	if x.over {
		return gap.Lo <= x.ord && x.ord < gap.Hi
	}
	return gap.Lo < x.ord && x.ord < gap.Hi
}

// pointsNear are real numbers at and beside bounds.
func pointsNear(width int, bounds ...int) []point {
	top := topOf(width)
	var out []point
	for _, bound := range bounds {
		for ord := max(bound, 2-top) - 2; ord <= min(bound, top-2)+2; ord++ {
			if ord > -top && ord < top {
				out = append(out, point{ord, false})
			}
			if ord < top {
				out = append(out, point{ord, true})
			}
		}
	}
	return out
}

// realPair says of any two numbers whether they are the bounds of a pair of a width, told by the values.
func realPair(width int, p impl.Pair) bool {
	top := topOf(width)
	if p.Lo < -top || p.Lo > top || p.Hi < -top || p.Hi > top {
		return false
	}
	lo, hi := valueOf(width, p.Lo), valueOf(width, p.Hi)
	return lo <= hi && !math.IsInf(lo, 1) && !math.IsInf(hi, -1)
}

// stepsOf is how many steps a pair has, without a limit.
func stepsOf(p impl.Pair) *big.Int {
	return new(big.Int).Sub(big.NewInt(int64(p.Hi)), big.NewInt(int64(p.Lo)))
}

// okPairs are pairs of a width: those of few steps, those with infinite bounds, and some all over it.
func okPairs(width int) []impl.Pair {
	top, step := topOf(width), 1<<fractionOf(width)
	out := []impl.Pair{{Lo: -top, Hi: top}, {Lo: -top, Hi: 0}, {Lo: 0, Hi: top}, {Lo: 1 - top, Hi: top - 1}}
	for _, at := range []int{1 - top, -step, -2, -1, 0, 1, step - 1, top / 2, top - 1} {
		for steps := range 6 {
			out = append(out, impl.Pair{Lo: at, Hi: at + steps}, impl.Pair{Lo: at - steps, Hi: at})
		}
	}
	s := spread{uint64(width) + 7}
	for range 60 {
		lo, hi := int(s.next()%uint64(2*top))-top, int(s.next()%uint64(2*top))-top
		near := lo + int(s.next()%1000)
		out = append(out, impl.Pair{Lo: min(lo, hi), Hi: max(lo, hi)}, impl.Pair{Lo: lo, Hi: near})
	}
	return slices.DeleteFunc(out, func(p impl.Pair) bool { return !realPair(width, p) })
}

// wrongPairs are not ok at a width.
func wrongPairs(width int) []impl.Pair {
	top := topOf(width)
	out := []impl.Pair{{Lo: top, Hi: top}, {Lo: -top, Hi: -top}, {Lo: 1, Hi: 0}, {Lo: 0, Hi: -1}, {Lo: top, Hi: -top},
		{Lo: top, Hi: top - 1}, {Lo: 1 - top, Hi: -top}, {Lo: 5, Hi: 3}, {Lo: math.MinInt, Hi: math.MaxInt}, {Lo: math.MaxInt, Hi: math.MinInt}}
	for _, ord := range wrongOrds(width) {
		out = append(out, impl.Pair{Lo: ord, Hi: 7}, impl.Pair{Lo: -7, Hi: ord}, impl.Pair{Lo: ord, Hi: ord})
	}
	return out
}

// boxes are ok boxes of one pair to six: of few steps, of one pair as often as there is room, and of pairs all over a width.
func boxes(width int) []impl.Box {
	pairs := okPairs(width)
	s := spread{uint64(width) + 11}
	var out []impl.Box
	for count := 1; count <= 6; count++ {
		for range 40 {
			few, any := impl.Box{}, impl.Box{}
			for range count {
				lo := int(s.next()%40) - 20
				few.Pairs = append(few.Pairs, impl.Pair{Lo: lo, Hi: lo + int(s.next()%4)})
				any.Pairs = append(any.Pairs, pairs[s.next()%uint64(len(pairs))])
			}
			out = append(out, few, any)
		}
		out = append(out, impl.Box{Pairs: slices.Repeat([]impl.Pair{pairs[0]}, count)})
	}
	for _, p := range pairs {
		out = append(out, impl.Box{Pairs: []impl.Pair{p}})
	}
	return out
}

// wrongBoxes are not ok at a width: too few pairs, too many, one that is not ok at each place.
func wrongBoxes(width int) []impl.Box {
	good := []impl.Pair{{Lo: 0, Hi: 9}, {Lo: -4, Hi: 3}, {Lo: 1, Hi: 2}, {Lo: 5, Hi: 8}, {Lo: 0, Hi: 0}, {Lo: 2, Hi: 6}}
	out := []impl.Box{{}, {Pairs: []impl.Pair{}}, {Pairs: append(slices.Clone(good), good[0])}, {Pairs: slices.Repeat(good, 20)}}
	for _, wrong := range wrongPairs(width) {
		for at := range good {
			box := cloned(impl.Box{Pairs: good})
			box.Pairs[at] = wrong
			out = append(out, box)
		}
		out = append(out, impl.Box{Pairs: []impl.Pair{wrong}})
	}
	return out
}

func cloned(b impl.Box) impl.Box { return impl.Box{Pairs: slices.Clone(b.Pairs)} }

func sameBox(a impl.Box, b impl.Box) bool { return slices.Equal(a.Pairs, b.Pairs) }

// withPair is a box with another pair at one place.
func withPair(b impl.Box, at int, p impl.Pair) impl.Box {
	out := cloned(b)
	out.Pairs[at] = p
	return out
}

// within is an ok box in another one, each bound moved in by some of the steps.
func within(width int, s *spread, b impl.Box) impl.Box {
	out := cloned(b)
	for at, p := range b.Pairs {
		steps := impl.BitGap(p.Lo, p.Hi)
		switch s.next() % 4 {
		case 0:
			out.Pairs[at].Lo += int(s.next() % (steps + 1))
		case 1:
			out.Pairs[at].Hi -= int(s.next() % (steps + 1))
		case 2:
			out.Pairs[at].Lo += int(steps / 3)
			out.Pairs[at].Hi -= int(steps / 3)
		}
		if !realPair(width, out.Pairs[at]) {
			out.Pairs[at] = p
		}
	}
	return out
}

// unitsOf is the product over the coordinates, without a limit.
func unitsOf(b impl.Box) *big.Int {
	product := big.NewInt(1)
	for _, p := range b.Pairs {
		if steps := stepsOf(p); steps.Sign() > 0 {
			steps.Mul(steps, big.NewInt(4))
			product.Mul(product, steps.Sub(steps, big.NewInt(1)))
		}
	}
	return product
}

// pathOf is 1, and the halvings of all coordinates, counted one by one.
func pathOf(b impl.Box) int {
	path := 1
	for _, p := range b.Pairs {
		for steps := stepsOf(p); steps.Sign() > 0; steps.Rsh(steps, 1) {
			path++
		}
	}
	return path
}
