package tests

import (
	"math"
	"math/big"
)

// What is asked of the program is held here against floats of Go and against math/big, which know nothing of it.

const (
	narrowTop = 2139095040
	wideTop   = 9218868437227405312
)

func topOf(width int) int {
	if width == 32 {
		return narrowTop
	}
	return wideTop
}

func fractionOf(width int) int {
	if width == 32 {
		return 23
	}
	return 52
}

func bothWidths() []int { return []int{32, 64} }

func wrongWidths() []int {
	return []int{math.MinInt, -64, -32, -1, 0, 1, 8, 16, 31, 33, 63, 65, 128, math.MaxInt}
}

// wrongOrds are numbers that are no order numbers of a width.
func wrongOrds(width int) []int {
	top := topOf(width)
	out := []int{math.MinInt, math.MinInt + 1, -top - 2, -top - 1, top + 1, top + 2, math.MaxInt - 1, math.MaxInt}
	if width == 32 {
		out = append(out, -wideTop, -1<<32, -1<<31, 1<<31, 1<<32, wideTop)
	}
	return out
}

// spread is the same row of numbers at each run, all over 64 bits.
type spread struct{ state uint64 }

func (s *spread) next() uint64 {
	s.state += 0x9e3779b97f4a7c15
	z := s.state
	z = (z ^ z>>30) * 0xbf58476d1ce4e5b9
	z = (z ^ z>>27) * 0x94d049bb133111eb
	return z ^ z>>31
}

// sizes are order numbers from 0 on: the edges of a width, with what stands beside them, and some all over it.
func sizes(width int) []int {
	top, step := topOf(width), 1<<fractionOf(width)
	one := top / step / 2 * step
	var out []int
	for _, edge := range []int{0, step / 2, step, 2 * step, one, one + step, top / 2, top - step, top} {
		for beside := -3; beside <= 3; beside++ {
			if n := edge + beside; n >= 0 && n <= top {
				out = append(out, n)
			}
		}
	}
	s := spread{uint64(width)}
	for range 2000 {
		out = append(out, int(s.next()%uint64(top)), int(s.next()%uint64(step)))
	}
	return out
}

// ords are sizes, and these below 0.
func ords(width int) []int {
	var out []int
	for _, n := range sizes(width) {
		out = append(out, n, -n)
	}
	return out
}

// floatOf is the value of a pattern, as Go has it.
func floatOf(width int, bits uint64) float64 {
	if width == 32 {
		return float64(math.Float32frombits(uint32(bits)))
	}
	return math.Float64frombits(bits)
}

// ordOf is the order number of a float that the width has.
func ordOf(width int, v float64) int {
	var bits uint64
	if width == 32 {
		bits = uint64(math.Float32bits(float32(v)))
	} else {
		bits = math.Float64bits(v)
	}
	size := int(bits &^ (1 << (width - 1)))
	if math.Signbit(v) {
		return -size
	}
	return size
}

// valueOf is the value of an order number.
func valueOf(width int, ord int) float64 {
	if ord < 0 {
		return floatOf(width, uint64(-ord)|1<<(width-1))
	}
	return floatOf(width, uint64(ord))
}

// partValue is Size times 2 to the power of Power, without rounding.
func partValue(below bool, size uint64, power int) *big.Float {
	v := new(big.Float).SetPrec(64).SetUint64(size)
	v.SetMantExp(v, power)
	if below {
		v.Neg(v)
	}
	return v
}

// madeOf is the order number of the finite float with just this value, if the width has one.
func madeOf(width int, v *big.Float) (int, bool) {
	if width == 32 {
		f, how := v.Float32()
		if how != big.Exact || math.IsInf(float64(f), 0) {
			return 0, false
		}
		return ordOf(32, float64(f)), true
	}
	f, how := v.Float64()
	if how != big.Exact || math.IsInf(f, 0) {
		return 0, false
	}
	return ordOf(64, f), true
}
