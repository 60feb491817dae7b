package impl

import "math"

// wholeNumber is every integer kind of the language.
type wholeNumber interface {
	~int | ~int8 | ~int16 | ~int32 | ~int64 | ~uint | ~uint8 | ~uint16 | ~uint32 | ~uint64 | ~uintptr
}

// lastThat is the last number from lo to hi that fits; lo must fit, and nothing behind one that does not.
func lastThat[N wholeNumber](lo N, hi N, fits func(N) bool) N {
	for lo < hi {
		// The middle, up, without a sum or a difference that might overflow.
		middle := (lo | hi) - (lo^hi)>>1
		if fits(middle) {
			lo = middle
		} else {
			hi = middle - 1
		}
	}
	return lo
}

// BitGap is how many steps lie between two numbers.
func BitGap(lo int, hi int) uint64 {
	if lo > hi {
		return 0
	}
	return uint64(hi) - uint64(lo)
}

// BitMiddle lies in the middle of two numbers.
func BitMiddle(lo int, hi int) int {
	return lo + int(BitGap(lo, hi)/2)
}

// BitWiden is a narrow float among the wide ones.
func BitWiden(ord int) (int, bool) {
	if !BitOk(BitNarrow, ord) {
		return 0, false
	}
	return widened(ord), true
}

// BitBelow is the greatest narrow float that is not above a wide one.
func BitBelow(ord int) (int, bool) {
	if !BitOk(BitWide, ord) {
		return 0, false
	}
	return narrowBelow(ord), true
}

// BitAbove is the least narrow float that is not below a wide one.
func BitAbove(ord int) (int, bool) {
	if !BitOk(BitWide, ord) {
		return 0, false
	}
	return -narrowBelow(-ord), true
}

// widened takes a narrow order number to a wide one by the language's conversion, which rounds nothing.
func widened(ord int) int {
	narrow := math.Float32frombits(uint32(BitBits(BitNarrow, ord)))
	wide, _ := BitOrd(BitWide, math.Float64bits(float64(narrow)))
	return wide
}

// narrowNear takes a wide order number to a narrow one that is next to it, on either side.
func narrowNear(ord int) int {
	top := BitTop(BitNarrow)
	// The language leaves open what a conversion beyond the greatest narrow float gives.
	if ord > widened(top-1) {
		return top
	}
	if ord < widened(1-top) {
		return -top
	}
	narrow := float32(math.Float64frombits(BitBits(BitWide, ord)))
	near, _ := BitOrd(BitNarrow, uint64(math.Float32bits(narrow)))
	return near
}

// narrowBelow sets right what the conversion rounded up.
func narrowBelow(ord int) int {
	near := narrowNear(ord)
	return lastThat(BitDown(BitNarrow, near), near, func(n int) bool { return widened(n) <= ord })
}
