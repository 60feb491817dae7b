package impl

import "math/bits"

// Widths.
const (
	BitNarrow = 32
	BitWide   = 64
)

// Kinds of floats.
const (
	BitNone     = 0
	BitZero     = 1
	BitSmall    = 2
	BitCommon   = 3
	BitInfinite = 4
)

// BitMaxPower bounds the powers that BitMake takes.
const BitMaxPower = 2000

// BitPart is a finite float: its sign, and Size times 2 to the power Power.
type BitPart struct {
	Below bool
	Size  uint64
	Power int
}

// floatForm is what sets the floats of one width apart from those of the other.
type floatForm interface {
	// sign is the bit of a pattern that says that it is below 0.
	sign() uint64
	// fraction is how many bits the fraction has.
	fraction() int
	// top is the size of the infinite pattern.
	top() int
	// least is the power of two that is the least float above 0.
	least() int
}

type narrowForm struct{}

func (narrowForm) sign() uint64  { return 1 << 31 }
func (narrowForm) fraction() int { return 23 }
func (narrowForm) top() int      { return 255 << 23 }
func (narrowForm) least() int    { return -149 }

type wideForm struct{}

func (wideForm) sign() uint64  { return 1 << 63 }
func (wideForm) fraction() int { return 52 }
func (wideForm) top() int      { return 2047 << 52 }
func (wideForm) least() int    { return -1074 }

type formRow struct {
	width int
	form  floatForm
}

// formOf is the form of a width, and whether there is such a width.
func formOf(width int) (floatForm, bool) {
	table := [2]formRow{{BitNarrow, narrowForm{}}, {BitWide, wideForm{}}}
	for _, row := range table {
		if row.width == width {
			return row.form, true
		}
	}
	return nil, false
}

// formWith is the form of a width that has this order number.
func formWith(width int, ord int) (floatForm, bool) {
	form, ok := formOf(width)
	if !ok || ord < -form.top() || ord > form.top() {
		return nil, false
	}
	return form, true
}

// sizeOf is an order number without its sign; of order numbers alone, whose negative is always there.
func sizeOf(ord int) int {
	if ord < 0 {
		return -ord
	}
	return ord
}

// BitTop is the order number of the infinite one above 0.
func BitTop(width int) int {
	form, ok := formOf(width)
	if !ok {
		return 0
	}
	return form.top()
}

// BitOk says whether a number is an order number.
func BitOk(width int, ord int) bool {
	_, ok := formWith(width, ord)
	return ok
}

// BitOrd is the order number of a pattern.
func BitOrd(width int, bits uint64) (int, bool) {
	form, ok := formOf(width)
	if !ok {
		return 0, false
	}
	// A narrow pattern from 2^32 on keeps a bit above its sign, so this size refuses it too.
	size := bits &^ form.sign()
	if size > uint64(form.top()) {
		return 0, false
	}
	if bits != size {
		return -int(size), true
	}
	return int(size), true
}

// BitBits is the pattern of an order number.
func BitBits(width int, ord int) uint64 {
	form, ok := formWith(width, ord)
	if !ok {
		return 0
	}
	if ord < 0 {
		return form.sign() | uint64(sizeOf(ord))
	}
	return uint64(ord)
}

// BitKindOf tells what kind of float it is.
func BitKindOf(width int, ord int) int {
	form, ok := formWith(width, ord)
	if !ok {
		return BitNone
	}
	size := sizeOf(ord)
	switch {
	case size == 0:
		return BitZero
	case size == form.top():
		return BitInfinite
	case size>>form.fraction() == 0:
		return BitSmall
	}
	return BitCommon
}

// BitUp is the next one above.
func BitUp(width int, ord int) int {
	form, ok := formWith(width, ord)
	if !ok {
		return 0
	}
	return min(ord+1, form.top())
}

// BitDown is the next one below.
func BitDown(width int, ord int) int {
	form, ok := formWith(width, ord)
	if !ok {
		return 0
	}
	return max(ord-1, -form.top())
}

// BitPartOf takes a finite float apart.
func BitPartOf(width int, ord int) (BitPart, bool) {
	form, ok := formWith(width, ord)
	if !ok || sizeOf(ord) == form.top() {
		return BitPart{}, false
	}
	hidden := 1 << form.fraction()
	exponent := sizeOf(ord) >> form.fraction()
	part := BitPart{Below: ord < 0, Size: uint64(sizeOf(ord) & (hidden - 1)), Power: form.least()}
	if exponent > 0 {
		part.Size |= uint64(hidden)
		part.Power += exponent - 1
	}
	return part, true
}

// BitMake puts one together, if there is such a float.
func BitMake(width int, p BitPart) (int, bool) {
	form, ok := formOf(width)
	if !ok || p.Power < -BitMaxPower || p.Power > BitMaxPower {
		return 0, false
	}
	if p.Size == 0 {
		return 0, true
	}
	size, ok := sizeMade(form, p.Size, p.Power)
	if ok && p.Below {
		return -size, true
	}
	return size, ok
}

// sizeMade is the order number of size times 2 to the power of power, size being above 0.
func sizeMade(form floatForm, size uint64, power int) (int, bool) {
	// The odd number shows whether the value fits at all, however it was shared.
	even := bits.TrailingZeros64(size)
	size >>= even
	power += even
	spare := form.fraction() + 1 - bits.Len64(size)
	if spare < 0 || power < form.least() {
		return 0, false
	}
	raise := min(spare, power-form.least())
	size <<= raise
	power -= raise
	steps := power - form.least()
	// Asked ahead of the shift, which might overflow.
	if steps+1 >= form.top()>>form.fraction() {
		return 0, false
	}
	// The highest bit of a size that is full adds the 1 to the exponent that steps is short of.
	return steps<<form.fraction() + int(size), true
}
