package tests

import (
	"math"
	"slices"
	"strconv"
	"testing"

	"loop.example/pinfold/impl"
)

// backCall is a function that goes back, by how many spans it is handed, and whether it answers nothing.
type backCall struct {
	name      string
	places    int
	isNothing func(width int, s []impl.Span) bool
}

func callOfThree(name string, back backTwo) backCall {
	return backCall{name, 3, func(width int, s []impl.Span) bool { return back(width, s[0], s[1], s[2]) == impl.Span{} }}
}

func callOfTwo(name string, back backOne) backCall {
	return backCall{name, 2, func(width int, s []impl.Span) bool { return back(width, s[0], s[1]) == impl.Span{} }}
}

// backPowerOf is BackPow of one power.
func backPowerOf(n int) backOne {
	return func(width int, z impl.Span, x impl.Span) impl.Span { return impl.BackPow(width, z, n, x) }
}

func backCalls() []backCall {
	gap := backCall{"BackMulGap", 3, func(width int, s []impl.Span) bool {
		gap, ok := impl.BackMulGap(width, s[0], s[1], s[2])
		return gap == impl.Pair{} && !ok
	}}
	out := []backCall{
		callOfThree("BackMul", impl.BackMul), gap, callOfThree("BackTop", impl.BackTop), callOfThree("BackBottom", impl.BackBottom), callOfThree("BackMin", impl.BackMin), callOfThree("BackMax", impl.BackMax),
		callOfTwo("BackRoot", impl.BackRoot), callOfTwo("BackAbs", impl.BackAbs),
	}
	for n := range impl.SpanMaxPower + 1 {
		out = append(out, callOfTwo("BackPow "+strconv.Itoa(n), backPowerOf(n)))
	}
	return out
}

// checkNothing sees that a function answers nothing with these spans in each place, among all that are handed beside.
func checkNothing(t *testing.T, width int, call backCall, wrong []impl.Span, beside []impl.Span) {
	t.Helper()
	for _, bad := range wrong {
		for _, first := range beside {
			for _, second := range beside {
				for place := range call.places {
					s := slices.Insert([]impl.Span{first, second}[:call.places-1], place, bad)
					if !call.isNothing(width, s) {
						t.Errorf("%d: %s of %v is something", width, call.name, s)
					}
				}
			}
		}
	}
}

// goodSpans are such that something is left of each of them, or told, by each function.
func goodSpans(width int) []impl.Span {
	n := numbersOf(width)
	return []impl.Span{single(0), n.at(1, 1), n.at(-1, 1), spanOf(-5, 7), n.from(1), n.all()}
}

// With good spans in all places each function answers something: so what it answers beside wrong ones tells.
func TestGoodSpansGoBack(t *testing.T) {
	for _, width := range bothWidths() {
		good := goodSpans(width)
		for _, call := range backCalls() {
			some := 0
			for _, first := range good {
				for _, second := range good {
					for _, third := range good {
						if !call.isNothing(width, []impl.Span{first, second, third}[:call.places]) {
							some++
						}
					}
				}
			}
			if some < 3 {
				t.Errorf("%d: %s answers something %d times", width, call.name, some)
			}
		}
	}
}

func TestWrongSpansGoBackToNothing(t *testing.T) {
	t.Parallel()
	for _, width := range bothWidths() {
		for _, call := range backCalls() {
			checkNothing(t, width, call, wrongSpans(width), append(goodSpans(width), impl.Span{}))
		}
	}
}

func TestEmptySpansGoBackToNothing(t *testing.T) {
	for _, width := range bothWidths() {
		for _, call := range backCalls() {
			checkNothing(t, width, call, []impl.Span{{}}, emptyAnd(append(goodSpans(width), spansToAsk(width, 9, 4)...)))
		}
	}
}

func TestWrongWidthsGoBackToNothing(t *testing.T) {
	spans := []impl.Span{{}, {Some: true}, single(1), spanOf(-5, 7), spanOf(1, 2), spanOf(-narrowTop, narrowTop), spanOf(-wideTop, wideTop), spanOf(ordOf(32, 1), ordOf(32, 2)), spanOf(ordOf(64, 1), ordOf(64, 2))}
	for _, width := range wrongWidths() {
		for _, call := range backCalls() {
			checkNothing(t, width, call, spans, spans)
		}
	}
}

func TestWrongPowersGoBackToNothing(t *testing.T) {
	wrong := []int{math.MinInt, math.MinInt + 1, -9, -8, -3, -2, -1, 9, 10, 11, 16, 64, 1 << 32, math.MaxInt - 1, math.MaxInt}
	for _, width := range bothWidths() {
		for _, n := range wrong {
			call := callOfTwo("BackPow "+strconv.Itoa(n), backPowerOf(n))
			spans := emptyAnd(append(goodSpans(width), spansToAsk(width, 5, 6)...))
			checkNothing(t, width, call, spans, spans)
		}
	}
}
