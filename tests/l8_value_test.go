package tests

import (
	"math/big"
	"slices"
	"testing"

	"loop.example/pinfold/impl"
)

// finiteOrds are order numbers of finite floats, each once, ascending.
func finiteOrds(width int) []int {
	var out []int
	for _, ord := range ords(width) {
		if ord > -topOf(width) && ord < topOf(width) {
			out = append(out, ord)
		}
	}
	slices.Sort(out)
	return slices.Compact(out)
}

// Promise 31: the value of a finite float is that of Go, and is rounded to that float in all three ways.
func TestValuesOfFloats(t *testing.T) {
	for _, width := range bothWidths() {
		for at, ord := range finiteOrds(width) {
			f, ok := impl.FloatFrac(width, ord)
			if !ok || !isFrac(f, ratOf(width, ord)) {
				t.Fatalf("%d: FloatFrac of %d: %v %v", width, ord, f, ok)
			}
			// The rest is asked of some: there are many of them.
			if at%5 != 0 {
				continue
			}
			lo, isLo := impl.FloatDown(width, f)
			hi, isHi := impl.FloatUp(width, f)
			near, isNear := impl.FloatNear(width, f)
			if !impl.FracOk(f) || !isLo || !isHi || !isNear || lo != ord || hi != ord || near != ord {
				t.Fatalf("%d: the value of %d is rounded to %d, %d, %d", width, ord, lo, hi, near)
			}
		}
	}
}

// Promise 31: greater floats have greater values.
func TestValuesOfGreaterFloats(t *testing.T) {
	for _, width := range bothWidths() {
		row := finiteOrds(width)
		before, _ := impl.FloatFrac(width, row[0])
		for _, ord := range row[1:] {
			f, _ := impl.FloatFrac(width, ord)
			if impl.FracCmp(before, f) != -1 {
				t.Errorf("%d: the value of %d is not above that of the one ahead", width, ord)
			}
			before = f
		}
	}
}

// leastPower is the power of two, without its sign, that the least float above 0 is.
func leastPower(width int) int {
	if width == 32 {
		return 149
	}
	return 1074
}

// greatestOf is the value of the greatest finite float.
func greatestOf(width int) *big.Rat {
	if width == 32 {
		return wholeRat(new(big.Int).Sub(powerOfTwo(128), powerOfTwo(104)))
	}
	return wholeRat(new(big.Int).Sub(powerOfTwo(1024), powerOfTwo(971)))
}

// leastTimes is a multiple of the least float above 0.
func leastTimes(width int, top int64, bottom int64) *big.Rat {
	return new(big.Rat).Mul(smallRat(top, bottom), rat(big.NewInt(1), powerOfTwo(leastPower(width))))
}

func TestValuesOfFloatsAtTheEdges(t *testing.T) {
	for _, width := range bothWidths() {
		top, step := topOf(width), 1<<fractionOf(width)
		wide := int64(step)
		for _, row := range []struct {
			ord  int
			want *big.Rat
		}{
			{0, new(big.Rat)},
			{1, leastTimes(width, 1, 1)},
			{2, leastTimes(width, 2, 1)},
			{3, leastTimes(width, 3, 1)},
			{step - 1, leastTimes(width, wide-1, 1)},
			{step, leastTimes(width, wide, 1)},
			{step + 1, leastTimes(width, wide+1, 1)},
			{2*step - 1, leastTimes(width, 2*wide-1, 1)},
			{2 * step, leastTimes(width, 2*wide, 1)},
			{2*step + 1, leastTimes(width, 2*wide+2, 1)},
			{top/2 - step/2, smallRat(1, 1)},
			{top/2 + step/2, smallRat(2, 1)},
			{top - 1, greatestOf(width)},
		} {
			for _, side := range []int{1, -1} {
				want := new(big.Rat).Mul(row.want, smallRat(int64(side), 1))
				f, ok := impl.FloatFrac(width, side*row.ord)
				if !ok || !isFrac(f, want) || !impl.FracOk(f) {
					t.Errorf("%d: FloatFrac of %d: %v %v", width, side*row.ord, f, ok)
				}
				checkRounded(t, width, want)
			}
		}
	}
}

// Infinite floats have no value, nor has what is no float.
func TestFloatsWithoutValue(t *testing.T) {
	for _, width := range bothWidths() {
		for _, ord := range append(wrongOrds(width), topOf(width), -topOf(width)) {
			f, ok := impl.FloatFrac(width, ord)
			checkNoFrac(t, "FloatFrac", f, ok)
		}
	}
	for _, width := range wrongWidths() {
		for _, ord := range []int{0, 1, -1, 1 << 23, 1 << 52, narrowTop, wideTop, narrowTop / 2, wideTop / 2} {
			f, ok := impl.FloatFrac(width, ord)
			checkNoFrac(t, "FloatFrac at a wrong width", f, ok)
		}
	}
	if _, ok := impl.FloatFrac(32, narrowTop+1); ok {
		t.Error("a wide float among the narrow ones")
	}
	if f, ok := impl.FloatFrac(64, narrowTop); !ok || !isFrac(f, ratOf(64, narrowTop)) {
		t.Error("the narrow infinite one's number is that of a finite wide float", f, ok)
	}
}
