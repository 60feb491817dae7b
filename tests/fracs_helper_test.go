package tests

import (
	"math/big"
	"slices"
	"testing"

	"loop.example/pinfold/impl"
)

// rat is a fraction of two numbers, as math/big has it.
func rat(top *big.Int, bottom *big.Int) *big.Rat { return new(big.Rat).SetFrac(top, bottom) }

// smallRat is a fraction of two small numbers.
func smallRat(top int64, bottom int64) *big.Rat { return big.NewRat(top, bottom) }

// wholeRat is a whole number.
func wholeRat(n *big.Int) *big.Rat { return new(big.Rat).SetInt(n) }

func negRat(r *big.Rat) *big.Rat { return new(big.Rat).Neg(r) }

// fracOf is the fraction of a rational number, however many digits it has.
func fracOf(r *big.Rat) impl.Frac {
	return impl.Frac{Below: r.Sign() < 0, Top: natOf(new(big.Int).Abs(r.Num())), Bottom: natOf(r.Denom())}
}

// fitsRat says whether both numbers have at most 256 digits in lowest terms.
func fitsRat(r *big.Rat) bool { return fits(r.Num()) && fits(r.Denom()) }

// isFrac says whether a fraction stands just as this number does in lowest terms.
func isFrac(f impl.Frac, r *big.Rat) bool {
	return f.Below == (r.Sign() < 0) && isNat(f.Top, new(big.Int).Abs(r.Num())) && isNat(f.Bottom, r.Denom())
}

func sameFrac(a impl.Frac, b impl.Frac) bool {
	return a.Below == b.Below && slices.Equal(a.Top, b.Top) && slices.Equal(a.Bottom, b.Bottom)
}

func isNoFrac(f impl.Frac) bool { return !f.Below && len(f.Top) == 0 && len(f.Bottom) == 0 }

// checkFrac holds an answer against the number that it should be; against nothing, if that has too many digits.
func checkFrac(t *testing.T, what string, f impl.Frac, ok bool, want *big.Rat) {
	t.Helper()
	if ok != fitsRat(want) {
		t.Errorf("%s: %v, but it has %d and %d bits", what, ok, want.Num().BitLen(), want.Denom().BitLen())
	}
	if ok && !isFrac(f, want) || !ok && !isNoFrac(f) {
		t.Errorf("%s: %v, not %v", what, f, want)
	}
}

// checkNoFrac sees that an answer is nothing and false.
func checkNoFrac(t *testing.T, what string, f impl.Frac, ok bool) {
	t.Helper()
	if ok || !isNoFrac(f) {
		t.Errorf("%s: %v, %v", what, f, ok)
	}
}

// mostNat is the greatest number of 256 digits.
func mostNat() *big.Int { return moved(powerOfTwo(natBits), -1) }

// shortRats are fractions of a few digits, on both sides of 0.
func shortRats() []*big.Rat {
	out := []*big.Rat{new(big.Rat)}
	for _, r := range []*big.Rat{
		smallRat(1, 1), smallRat(2, 1), smallRat(1, 2), smallRat(3, 2), smallRat(2, 3), smallRat(5, 6), smallRat(7, 1), smallRat(1, 65535), smallRat(65536, 65535), smallRat(65535, 65536),
		rat(powerOfTwo(80), big.NewInt(243)), rat(big.NewInt(1), powerOfTwo(149)),
	} {
		out = append(out, r, negRat(r))
	}
	return out
}

// rats are fractions of at most 256 digits: short ones, the edges, and some of each length.
func rats() []*big.Rat {
	out := shortRats()
	most := mostNat()
	for _, r := range []*big.Rat{wholeRat(most), rat(big.NewInt(1), most), rat(moved(most, -1), most), rat(powerOfTwo(4095), big.NewInt(3)), rat(most, powerOfTwo(4095))} {
		out = append(out, r, negRat(r))
	}
	s := spread{21}
	for at, count := range []int{1, 2, 2, 3, 4, 5, 8, 16, 40, 100, 127, 128} {
		r := rat(someNat(&s, count), someNat(&s, 1+int(s.next()%uint64(count))))
		if at%2 == 0 {
			r.Neg(r)
		}
		out = append(out, r)
	}
	return out
}

// wrongFracs are fractions that are not ok: a top or a bottom that is no number, a bottom 0, a common divisor, a 0 that is below.
func wrongFracs() []impl.Frac {
	most := natOf(mostNat())
	out := []impl.Frac{
		{}, {Below: true}, {Top: []int{1}}, {Below: true, Top: []int{5}}, {Top: []int{}, Bottom: []int{}},
		{Below: true, Bottom: []int{1}}, {Below: true, Top: []int{}, Bottom: []int{1}}, {Below: true, Bottom: []int{2}}, {Bottom: []int{2}}, {Bottom: most},
		{Top: []int{2}, Bottom: []int{2}}, {Top: []int{2}, Bottom: []int{4}}, {Top: []int{4}, Bottom: []int{2}}, {Below: true, Top: []int{9}, Bottom: []int{6}}, {Top: []int{0, 1}, Bottom: []int{2}},
		{Top: most, Bottom: most}, {Top: most, Bottom: []int{3}}, {Top: []int{3}, Bottom: most},
	}
	for _, wrong := range [][]int{{0}, {1, 0}, {65536}, {-1}, {1, -1}, {-65535, 1}, {1 << 40, 1}, append(slices.Clone(most), 1), slices.Repeat([]int{1}, 257), make([]int, 257)} {
		out = append(out, impl.Frac{Top: wrong, Bottom: []int{1}}, impl.Frac{Top: []int{1}, Bottom: wrong}, impl.Frac{Below: true, Top: wrong, Bottom: []int{7}}, impl.Frac{Bottom: wrong}, impl.Frac{Top: wrong})
	}
	return out
}
