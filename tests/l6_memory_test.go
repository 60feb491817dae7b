package tests

import (
	"slices"
	"testing"

	"loop.example/pinfold/impl"
)

// guardedFrac is a fraction whose lists have spare room behind their ends, and a way to see whether that or they were written to.
func guardedFrac(f impl.Frac) (impl.Frac, func() bool) {
	top, cleanTop := guardedNat(f.Top)
	bottom, cleanBottom := guardedNat(f.Bottom)
	return impl.Frac{Below: f.Below, Top: top, Bottom: bottom}, func() bool { return cleanTop() && cleanBottom() }
}

// blot writes all over a fraction that was answered, and sees that its two lists share nothing.
func blot(t *testing.T, f impl.Frac) {
	t.Helper()
	before := slices.Clone(f.Bottom)
	scribble(f.Top, natInk)
	if !slices.Equal(f.Bottom, before) {
		t.Errorf("%v: top and bottom share memory", before)
	}
	scribble(f.Bottom, natInk)
}

func fracsToGuard() []impl.Frac {
	out := wrongFracs()[:12]
	for _, text := range []string{"0", "1", "-1", "2", "1/2", "-1/2", "3/4", "9/4", "-7/3", "65536", "65536/65535", "18446744073709551616/3", "-1/340282366920938463463374607431768211456"} {
		f, _ := impl.FracRead(text)
		out = append(out, f)
	}
	return append(out, fracOf(wholeRat(mostNat())))
}

// No function writes into a list that it was handed, or gives back the memory of one.
func TestFractionsShareNoMemory(t *testing.T) {
	all := fracsToGuard()
	for _, first := range all {
		a, clean := guardedFrac(first)
		blotAlone(t, a)
		if !clean() {
			t.Errorf("%v is written to", first)
		}
		for _, second := range all {
			b, cleanB := guardedFrac(second)
			blotTwo(t, a, b)
			if !clean() || !cleanB() {
				t.Errorf("%v or %v is written to", first, second)
			}
		}
		blotTwo(t, a, a)
		if !clean() {
			t.Errorf("%v, twice, is written to", first)
		}
	}
}

// blotAlone asks for all that is made of one fraction, and writes all over the answers.
func blotAlone(t *testing.T, f impl.Frac) {
	t.Helper()
	impl.FracOk(f)
	impl.FracSign(f)
	impl.FracText(f)
	impl.DecText(f)
	for _, call := range []func(impl.Frac) (impl.Frac, bool){impl.FracNeg, impl.FracAbs, impl.FracRoot, impl.FracFloor} {
		out, _ := call(f)
		blot(t, out)
	}
	for _, n := range []int{-1, 0, 1, 2, 3, 64, 65} {
		out, _ := impl.FracPow(f, n)
		blot(t, out)
	}
}

// blotTwo does so with all that is made of two.
func blotTwo(t *testing.T, a impl.Frac, b impl.Frac) {
	t.Helper()
	impl.FracCmp(a, b)
	for _, call := range []func(impl.Frac, impl.Frac) (impl.Frac, bool){impl.FracAdd, impl.FracSub, impl.FracMul, impl.FracDiv} {
		out, _ := call(a, b)
		blot(t, out)
	}
	for _, below := range []bool{false, true} {
		for _, lists := range [][2][]int{{a.Top, b.Top}, {a.Top, b.Bottom}, {a.Bottom, b.Top}, {a.Bottom, b.Bottom}, {a.Top, a.Bottom}, {a.Top, a.Top}, {a.Bottom, a.Bottom}} {
			out, _ := impl.FracOf(below, lists[0], lists[1])
			blot(t, out)
		}
	}
}

// One list may stand above and below.
func TestFractionsOfOneList(t *testing.T) {
	list, clean := guardedNat([]int{1})
	f := impl.Frac{Below: true, Top: list, Bottom: list}
	blotAlone(t, f)
	blotTwo(t, f, f)
	if out, ok := impl.FracNeg(f); !clean() || !ok || !sameFrac(out, impl.FracInt(1)) {
		t.Error("- of 1 by 1, one list", out, ok)
	}
}

// What a call answers is not kept: what is written into it is not to be seen in the next answer.
func TestFractionsAreNotKept(t *testing.T) {
	for range 2 {
		for _, n := range []int{0, 1, -7} {
			f := impl.FracInt(n)
			if !impl.FracOk(f) || impl.FracSign(f) != max(-1, min(n, 1)) {
				t.Errorf("FracInt %d: %v", n, f)
			}
			blot(t, f)
		}
		for _, text := range []string{"0", "1", "-3/2"} {
			f, ok := impl.FracRead(text)
			if !ok || impl.FracText(f) != text {
				t.Errorf("FracRead %q: %v", text, f)
			}
			blot(t, f)
		}
		for _, text := range []string{"0", "1", "1.5", "1e0", "10"} {
			f, ok := impl.DecFrac(text)
			if !ok || !impl.FracOk(f) {
				t.Errorf("DecFrac %q: %v", text, f)
			}
			blot(t, f)
		}
	}
}
