package tests

import (
	"math"
	"slices"
	"testing"

	"loop.example/pinfold/impl"
)

func TestNamesOfFloats(t *testing.T) {
	if impl.BitNarrow != 32 || impl.BitWide != 64 || impl.BitMaxPower != 2000 {
		t.Error("widths or limit")
	}
	if impl.BitNone != 0 || impl.BitZero != 1 || impl.BitSmall != 2 || impl.BitCommon != 3 || impl.BitInfinite != 4 {
		t.Error("kinds")
	}
}

func TestTopsAndWhatIsOk(t *testing.T) {
	for _, width := range bothWidths() {
		if got := impl.BitTop(width); got != topOf(width) {
			t.Errorf("BitTop(%d) = %d", width, got)
		}
		if v := valueOf(width, impl.BitTop(width)); !math.IsInf(v, 1) {
			t.Errorf("BitTop(%d) is of %v", width, v)
		}
		for _, ord := range ords(width) {
			if !impl.BitOk(width, ord) {
				t.Errorf("BitOk(%d, %d) = false", width, ord)
			}
		}
		for _, ord := range wrongOrds(width) {
			if impl.BitOk(width, ord) {
				t.Errorf("BitOk(%d, %d) = true", width, ord)
			}
		}
	}
}

// Whatever is asked of what is no width is answered as the document says.
func TestNoSuchWidth(t *testing.T) {
	for _, width := range wrongWidths() {
		if impl.BitTop(width) != 0 {
			t.Errorf("BitTop(%d)", width)
		}
		for _, ord := range []int{math.MinInt, -wideTop, -1, 0, 1, 1065353216, narrowTop, wideTop, math.MaxInt} {
			noOrderNumber(t, width, ord)
		}
		for _, bits := range []uint64{0, 1, 1 << 31, 0x3f800000, 1 << 63, math.MaxUint64} {
			if ord, ok := impl.BitOrd(width, bits); ord != 0 || ok {
				t.Errorf("BitOrd(%d, %x) = %d %v", width, bits, ord, ok)
			}
		}
		for _, p := range []impl.BitPart{{}, {Size: 1}, {Below: true, Size: 3, Power: -1}} {
			if ord, ok := impl.BitMake(width, p); ord != 0 || ok {
				t.Errorf("BitMake(%d, %v) = %d %v", width, p, ord, ok)
			}
		}
	}
}

func TestNoOrderNumber(t *testing.T) {
	for _, width := range bothWidths() {
		for _, ord := range wrongOrds(width) {
			noOrderNumber(t, width, ord)
		}
	}
}

func noOrderNumber(t *testing.T, width int, ord int) {
	t.Helper()
	if impl.BitOk(width, ord) || impl.BitBits(width, ord) != 0 || impl.BitKindOf(width, ord) != impl.BitNone {
		t.Errorf("%d of width %d: ok, a pattern or a kind", ord, width)
	}
	if impl.BitUp(width, ord) != 0 || impl.BitDown(width, ord) != 0 {
		t.Errorf("%d of width %d: has a next one", ord, width)
	}
	if p, ok := impl.BitPartOf(width, ord); p != (impl.BitPart{}) || ok {
		t.Errorf("%d of width %d: has parts", ord, width)
	}
}

// Promise 1: values are in the order of the order numbers.
func TestLesserOrderNumberLesserValue(t *testing.T) {
	for _, width := range bothWidths() {
		row := ords(width)
		slices.Sort(row)
		row = slices.Compact(row)
		for i := 1; i < len(row); i++ {
			below := floatOf(width, impl.BitBits(width, row[i-1]))
			above := floatOf(width, impl.BitBits(width, row[i]))
			if !(below < above) {
				t.Errorf("width %d: %d is %v, %d is %v", width, row[i-1], below, row[i], above)
			}
		}
	}
}

// Promise 1, by the parts: Size and Power are the value, and are shared as the document says.
func TestPartsAreTheValue(t *testing.T) {
	for _, width := range bothWidths() {
		least, full := map[int]int{32: -149, 64: -1074}[width], uint64(1)<<fractionOf(width)
		for _, ord := range ords(width) {
			p, ok := impl.BitPartOf(width, ord)
			if ord == topOf(width) || ord == -topOf(width) {
				if ok || p != (impl.BitPart{}) {
					t.Errorf("width %d: an infinite one has parts %v %v", width, p, ok)
				}
				continue
			}
			value, _ := partValue(p.Below, p.Size, p.Power).Float64()
			if !ok || value != valueOf(width, ord) || p.Below != (ord < 0) {
				t.Errorf("BitPartOf(%d, %d) = %v %v", width, ord, p, ok)
			}
			small := max(ord, -ord) < int(full)
			if small && (p.Power != least || p.Size >= full) || !small && (p.Size < full || p.Size >= 2*full) {
				t.Errorf("BitPartOf(%d, %d) = %v: shared otherwise", width, ord, p)
			}
		}
	}
}

func TestPartsAtTheEdges(t *testing.T) {
	for _, row := range []struct {
		width, ord int
		want       impl.BitPart
	}{
		{32, 0, impl.BitPart{Power: -149}},
		{32, 1, impl.BitPart{Size: 1, Power: -149}},
		{32, -8388607, impl.BitPart{Below: true, Size: 8388607, Power: -149}},
		{32, 8388608, impl.BitPart{Size: 8388608, Power: -149}},
		{32, 16777216, impl.BitPart{Size: 8388608, Power: -148}},
		{32, narrowTop - 1, impl.BitPart{Size: 16777215, Power: 104}},
		{64, 0, impl.BitPart{Power: -1074}},
		{64, -1, impl.BitPart{Below: true, Size: 1, Power: -1074}},
		{64, 1<<52 - 1, impl.BitPart{Size: 1<<52 - 1, Power: -1074}},
		{64, 1 << 52, impl.BitPart{Size: 1 << 52, Power: -1074}},
		{64, -wideTop + 1, impl.BitPart{Below: true, Size: 1<<53 - 1, Power: 971}},
	} {
		if p, ok := impl.BitPartOf(row.width, row.ord); !ok || p != row.want {
			t.Errorf("BitPartOf(%d, %d) = %v %v", row.width, row.ord, p, ok)
		}
	}
}

// Promise 2: patterns and order numbers come back.
func TestPatternsComeBack(t *testing.T) {
	for _, width := range bothWidths() {
		sign := uint64(1) << (width - 1)
		for _, size := range sizes(width) {
			for _, bits := range []uint64{uint64(size), uint64(size) | sign} {
				ord, ok := impl.BitOrd(width, bits)
				if want := ordOf(width, floatOf(width, bits)); !ok || ord != want {
					t.Errorf("BitOrd(%d, %x) = %d %v", width, bits, ord, ok)
				}
				want := bits
				if bits == sign {
					want = 0
				}
				if back := impl.BitBits(width, ord); back != want {
					t.Errorf("width %d: %x came back as %x", width, bits, back)
				}
			}
		}
		for _, ord := range ords(width) {
			if back, ok := impl.BitOrd(width, impl.BitBits(width, ord)); !ok || back != ord {
				t.Errorf("width %d: %d came back as %d %v", width, ord, back, ok)
			}
		}
	}
}

func TestPatternsThatAreNoFloat(t *testing.T) {
	narrow := []uint64{narrowTop + 1, 0x7fc00000, 0x7fffffff, 0xff800001, 0xffc00000, 0xffffffff,
		1 << 32, 1<<32 | 1, 1<<32 | 1<<31, 1<<32 | 0x3f800000, 1<<33 | 0xbf800000, 1 << 63, 1<<63 | 1<<31, wideTop, math.MaxUint64}
	wide := []uint64{wideTop + 1, 0x7ff8000000000000, 0x7fffffffffffffff, 0xfff0000000000001, 0xfff8000000000000, math.MaxUint64}
	for width, row := range map[int][]uint64{32: narrow, 64: wide} {
		for _, bits := range row {
			if ord, ok := impl.BitOrd(width, bits); ord != 0 || ok {
				t.Errorf("BitOrd(%d, %x) = %d %v", width, bits, ord, ok)
			}
		}
	}
}

// Promise 2: a finite float comes back from its parts in every way that Size and Power can share it.
func TestPartsComeBack(t *testing.T) {
	for _, width := range bothWidths() {
		for _, ord := range ords(width) {
			p, ok := impl.BitPartOf(width, ord)
			if !ok {
				continue
			}
			comesBack(t, width, ord, p)
			if p.Size == 0 {
				continue
			}
			for q := p; q.Size%2 == 0; {
				q.Size, q.Power = q.Size/2, q.Power+1
				comesBack(t, width, ord, q)
			}
			for q := p; q.Size < 1<<63; {
				q.Size, q.Power = q.Size*2, q.Power-1
				comesBack(t, width, ord, q)
			}
		}
	}
}

func comesBack(t *testing.T, width int, ord int, p impl.BitPart) {
	t.Helper()
	if got, ok := impl.BitMake(width, p); !ok || got != ord {
		t.Errorf("BitMake(%d, %v) = %d %v, not %d", width, p, got, ok, ord)
	}
}

func TestMakeAtTheEdges(t *testing.T) {
	for _, row := range []struct {
		width int
		p     impl.BitPart
		ord   int
		ok    bool
	}{
		{32, impl.BitPart{Size: 0, Power: 2000}, 0, true},
		{32, impl.BitPart{Below: true, Size: 0, Power: -2000}, 0, true},
		{64, impl.BitPart{Size: 0, Power: 2001}, 0, false},
		{64, impl.BitPart{Size: 0, Power: -2001}, 0, false},
		{64, impl.BitPart{Size: 1, Power: math.MinInt}, 0, false},
		{64, impl.BitPart{Size: 1, Power: math.MaxInt}, 0, false},
		{64, impl.BitPart{Size: 1, Power: 2000}, 0, false},
		{64, impl.BitPart{Size: 1 << 63, Power: 2000}, 0, false},
		{64, impl.BitPart{Size: 1 << 63, Power: -2000}, 0, false},
		{32, impl.BitPart{Size: 1, Power: -149}, 1, true},
		{32, impl.BitPart{Size: 1, Power: -150}, 0, false},
		{32, impl.BitPart{Below: true, Size: 2, Power: -150}, -1, true},
		{32, impl.BitPart{Size: 3, Power: -150}, 0, false},
		{32, impl.BitPart{Size: 1 << 63, Power: -212}, 1, true},
		{32, impl.BitPart{Size: 1<<24 - 1, Power: 104}, narrowTop - 1, true},
		{32, impl.BitPart{Size: 1 << 24, Power: 104}, 0, false},
		{32, impl.BitPart{Size: 1<<24 - 1, Power: 105}, 0, false},
		{32, impl.BitPart{Size: 1<<25 - 1}, 0, false},
		{32, impl.BitPart{Size: 1<<25 - 2}, 152<<23 - 1, true},
		{64, impl.BitPart{Size: 1 << 63, Power: -1137}, 1, true},
		{64, impl.BitPart{Size: 1 << 63, Power: -1138}, 0, false},
		{64, impl.BitPart{Size: 1 << 63, Power: 960}, 2046 << 52, true},
		{64, impl.BitPart{Size: 1 << 63, Power: 961}, 0, false},
		{64, impl.BitPart{Below: true, Size: 1<<53 - 1, Power: 971}, 1 - wideTop, true},
		{64, impl.BitPart{Below: true, Size: 1 << 53, Power: 971}, 0, false},
		{64, impl.BitPart{Size: 1<<53 + 1}, 0, false},
		{64, impl.BitPart{Size: math.MaxUint64}, 0, false},
		{64, impl.BitPart{Size: 1<<52 + 1, Power: -1074}, 1<<52 + 1, true},
		{64, impl.BitPart{Size: 1<<52 - 1, Power: -1075}, 0, false},
	} {
		if ord, ok := impl.BitMake(row.width, row.p); ord != row.ord || ok != row.ok {
			t.Errorf("BitMake(%d, %v) = %d %v", row.width, row.p, ord, ok)
		}
	}
}

func TestMakeOfAnyParts(t *testing.T) {
	s := spread{7}
	for range 200000 {
		p := impl.BitPart{Below: s.next()%2 == 0, Size: s.next() >> (s.next() % 64) << (s.next() % 64), Power: int(s.next()%4001) - 2000}
		if s.next()%2 == 0 {
			p.Power /= 10
		}
		for _, width := range bothWidths() {
			want, wanted := madeOf(width, partValue(p.Below, p.Size, p.Power))
			if ord, ok := impl.BitMake(width, p); ord != want || ok != wanted {
				t.Fatalf("BitMake(%d, %v) = %d %v, not %d %v", width, p, ord, ok, want, wanted)
			}
		}
	}
}

func TestKindsOfFloats(t *testing.T) {
	for _, width := range bothWidths() {
		common := math.Ldexp(1, -126)
		if width == 64 {
			common = math.Ldexp(1, -1022)
		}
		for _, ord := range ords(width) {
			want, v := impl.BitCommon, math.Abs(valueOf(width, ord))
			if v == 0 {
				want = impl.BitZero
			} else if v < common {
				want = impl.BitSmall
			} else if math.IsInf(v, 0) {
				want = impl.BitInfinite
			}
			if got := impl.BitKindOf(width, ord); got != want {
				t.Errorf("BitKindOf(%d, %d) = %d, not %d", width, ord, got, want)
			}
		}
	}
}

// Promise 3: up and back is the float, and Go knows no float between.
func TestNextFloats(t *testing.T) {
	for _, width := range bothWidths() {
		for _, ord := range ords(width) {
			up, down := impl.BitUp(width, ord), impl.BitDown(width, ord)
			if ord < topOf(width) && impl.BitDown(width, up) != ord {
				t.Errorf("width %d: %d up and back is %d", width, ord, impl.BitDown(width, up))
			}
			if ord > -topOf(width) && impl.BitUp(width, down) != ord {
				t.Errorf("width %d: %d down and back is %d", width, ord, impl.BitUp(width, down))
			}
			if next := nextTo(width, valueOf(width, ord), math.Inf(1)); valueOf(width, up) != next {
				t.Errorf("BitUp(%d, %d) = %d", width, ord, up)
			}
			if next := nextTo(width, valueOf(width, ord), math.Inf(-1)); valueOf(width, down) != next {
				t.Errorf("BitDown(%d, %d) = %d", width, ord, down)
			}
		}
		top := topOf(width)
		if impl.BitUp(width, top) != top || impl.BitDown(width, -top) != -top {
			t.Errorf("width %d: a step beyond the infinite ones", width)
		}
	}
}

func nextTo(width int, v float64, toward float64) float64 {
	if width == 32 {
		return float64(math.Nextafter32(float32(v), float32(toward)))
	}
	return math.Nextafter(v, toward)
}
