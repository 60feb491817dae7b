package tests

import (
	"math/big"
	"slices"
	"strconv"

	"loop.example/pinfold/impl"
)

// reach is from the least number of a set to the greatest one, whether it has these or only comes near; nil is no bound.
type reach struct {
	lo *big.Rat
	hi *big.Rat
}

func spanOf(lo int, hi int) impl.Span { return impl.Span{Some: true, Lo: lo, Hi: hi} }

// single is a span of just one float.
func single(ord int) impl.Span { return spanOf(ord, ord) }

func pairOfSpan(s impl.Span) impl.Pair { return impl.Pair{Lo: s.Lo, Hi: s.Hi} }

// reachOf is what the numbers of a span reach over.
func reachOf(width int, s impl.Span) reach {
	var out reach
	if s.Lo > -topOf(width) {
		out.lo = ratOf(width, s.Lo)
	}
	if s.Hi < topOf(width) {
		out.hi = ratOf(width, s.Hi)
	}
	return out
}

// besides are the floats next to a number, by the nearest one and its value.
func besides(width int, r *big.Rat) impl.Pair {
	near := nearestOf(width, r)
	switch ratOf(width, near).Cmp(r) {
	case -1:
		return impl.Pair{Lo: near, Hi: near + 1}
	case 1:
		return impl.Pair{Lo: near - 1, Hi: near}
	}
	return impl.Pair{Lo: near, Hi: near}
}

// spanAround is the least span that has what is reached over.
func spanAround(width int, r *reach) impl.Span {
	if r == nil {
		return impl.Span{}
	}
	out := spanOf(-topOf(width), topOf(width))
	if r.lo != nil {
		out.Lo = besides(width, r.lo).Lo
	}
	if r.hi != nil {
		out.Hi = besides(width, r.hi).Hi
	}
	return out
}

// lesserRat is the lesser of two; nil is below all others.
func lesserRat(a *big.Rat, b *big.Rat) *big.Rat {
	if a == nil || b == nil {
		return nil
	}
	if a.Cmp(b) < 0 {
		return a
	}
	return b
}

// greaterRat is the greater of two; nil is above all others.
func greaterRat(a *big.Rat, b *big.Rat) *big.Rat {
	if a == nil || b == nil {
		return nil
	}
	if a.Cmp(b) > 0 {
		return a
	}
	return b
}

func (r reach) negative() reach {
	var out reach
	if r.hi != nil {
		out.lo = negRat(r.hi)
	}
	if r.lo != nil {
		out.hi = negRat(r.lo)
	}
	return out
}

// from is the part from 0 on; nil, if there is none.
func (r reach) from() *reach {
	if r.hi != nil && r.hi.Sign() < 0 {
		return nil
	}
	if r.lo == nil || r.lo.Sign() < 0 {
		return &reach{new(big.Rat), r.hi}
	}
	return &r
}

// around is the least reach around two; nil is nothing.
func around(a *reach, b *reach) *reach {
	if a == nil {
		return b
	}
	if b == nil {
		return a
	}
	return &reach{lesserRat(a.lo, b.lo), greaterRat(a.hi, b.hi)}
}

func turnedReach(r *reach) *reach {
	if r == nil {
		return nil
	}
	turned := r.negative()
	return &turned
}

// bySigns is what a rule for what is from 0 on makes of both parts of a.
func bySigns(a reach, rule func(reach) *reach) *reach {
	var above, below *reach
	if part := a.from(); part != nil {
		above = rule(*part)
	}
	if part := a.negative().from(); part != nil {
		below = turnedReach(rule(*part))
	}
	return around(above, below)
}

func sumReach(a reach, b reach) *reach {
	var out reach
	if a.lo != nil && b.lo != nil {
		out.lo = new(big.Rat).Add(a.lo, b.lo)
	}
	if a.hi != nil && b.hi != nil {
		out.hi = new(big.Rat).Add(a.hi, b.hi)
	}
	return &out
}

func isNought(r *big.Rat) bool { return r != nil && r.Sign() == 0 }

// timesUpper is the product of two upper bounds from 0 on.
func timesUpper(a *big.Rat, b *big.Rat) *big.Rat {
	switch {
	case isNought(a) || isNought(b):
		return new(big.Rat)
	case a == nil || b == nil:
		return nil
	}
	return new(big.Rat).Mul(a, b)
}

func productReach(a reach, b reach) *reach {
	return bySigns(a, func(x reach) *reach {
		return bySigns(b, func(y reach) *reach { return &reach{new(big.Rat).Mul(x.lo, y.lo), timesUpper(x.hi, y.hi)} })
	})
}

// quotientReach is of a by those of b that are above 0.
func quotientReach(a reach, b reach) *reach {
	y := b.from()
	if y == nil || isNought(y.hi) {
		return nil
	}
	return bySigns(a, func(x reach) *reach {
		out := reach{lo: new(big.Rat)}
		if y.hi != nil {
			out.lo.Quo(x.lo, y.hi)
		}
		switch {
		case isNought(x.hi):
			out.hi = new(big.Rat)
		case x.hi != nil && !isNought(y.lo):
			out.hi = new(big.Rat).Quo(x.hi, y.lo)
		}
		return &out
	})
}

// sizeReach is what is left without sign.
func sizeReach(a reach) *reach { return around(a.from(), a.negative().from()) }

// boundToThe is a bound's power.
func boundToThe(r *big.Rat, n int) *big.Rat {
	if r == nil {
		return nil
	}
	return powerRat(r, n)
}

func powerReach(a reach, n int) *reach {
	switch {
	case n == 0:
		return &reach{smallRat(1, 1), smallRat(1, 1)}
	case n%2 == 0:
		a = *sizeReach(a)
	}
	return &reach{boundToThe(a.lo, n), boundToThe(a.hi, n)}
}

// hiLess is the lesser of two upper bounds.
func hiLess(a *big.Rat, b *big.Rat) *big.Rat {
	if a == nil {
		return b
	}
	if b == nil || a.Cmp(b) < 0 {
		return a
	}
	return b
}

func lesserReach(a reach, b reach) *reach { return &reach{lesserRat(a.lo, b.lo), hiLess(a.hi, b.hi)} }

func greaterReach(a reach, b reach) *reach {
	return turnedReach(lesserReach(a.negative(), b.negative()))
}

// spanEdges are bounds that the document names, from the least infinite one to the greatest.
func spanEdges(width int) []int {
	top, one := topOf(width), ordOf(width, 1)
	out := []int{0}
	for _, ord := range []int{1, one, one + 1, ordOf(width, 3), top - 1, top} {
		out = append(out, ord, -ord)
	}
	slices.Sort(out)
	return out
}

// edgeSpans are all spans between edges.
func edgeSpans(width int) []impl.Span {
	var out []impl.Span
	edges := spanEdges(width)
	for at, lo := range edges {
		for _, hi := range edges[at:] {
			if realPair(width, impl.Pair{Lo: lo, Hi: hi}) {
				out = append(out, spanOf(lo, hi))
			}
		}
	}
	return out
}

// someSpans are spans all over a width, and such around ordinary numbers.
func someSpans(width int, count int) []impl.Span {
	top, one := topOf(width), ordOf(width, 1)
	s := spread{uint64(width) + 31}
	var out []impl.Span
	for len(out) < count {
		lo, hi := int(s.next()%uint64(2*top))-top, int(s.next()%uint64(2*top))-top
		near := one - 3<<fractionOf(width) + int(s.next()%(6<<fractionOf(width)))
		next := near + int(s.next()%(2<<fractionOf(width)))
		out = append(out, spanOf(min(lo, hi), max(lo, hi)), single(lo), spanOf(near, next), spanOf(-next, -near), spanOf(-near, next), single(near))
	}
	return out[:count]
}

// emptyAnd are spans of a width with the empty one ahead.
func emptyAnd(spans []impl.Span) []impl.Span { return append([]impl.Span{{}}, spans...) }

// wrongSpans are not ok at a width: each wrong pair, and what is empty and has a bound.
func wrongSpans(width int) []impl.Span {
	top := topOf(width)
	out := []impl.Span{{Lo: 1}, {Hi: 1}, {Lo: -1}, {Hi: -1}, {Lo: -1, Hi: 1}, {Lo: 1, Hi: 1}, {Lo: -top, Hi: top}, {Lo: top, Hi: -top}, {Lo: -narrowTop, Hi: 5}}
	for _, p := range wrongPairs(width) {
		out = append(out, spanOf(p.Lo, p.Hi))
	}
	return out
}

// twoSpans is an operation of two spans.
type twoSpans struct {
	name   string
	reckon func(width int, a impl.Span, b impl.Span) impl.Span
}

// oneSpan is an operation of one.
type oneSpan struct {
	name   string
	reckon func(width int, a impl.Span) impl.Span
}

func reckonedTwo() []twoSpans {
	return []twoSpans{{"SpanMin", impl.SpanMin}, {"SpanMax", impl.SpanMax}, {"SpanAdd", impl.SpanAdd}, {"SpanSub", impl.SpanSub}, {"SpanMul", impl.SpanMul}, {"SpanDiv", impl.SpanDiv}}
}

func reckonedOne() []oneSpan {
	out := []oneSpan{{"SpanNeg", impl.SpanNeg}, {"SpanAbs", impl.SpanAbs}, {"SpanRoot", impl.SpanRoot}}
	for n := range 9 {
		out = append(out, oneSpan{"SpanPow " + strconv.Itoa(n), func(width int, a impl.Span) impl.Span { return impl.SpanPow(width, a, n) }})
	}
	return out
}

// spanWithin says whether all numbers of one span are in another one.
func spanWithin(a impl.Span, b impl.Span) bool {
	return !a.Some || b.Some && b.Lo <= a.Lo && a.Hi <= b.Hi
}
