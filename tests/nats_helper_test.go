package tests

import (
	"math"
	"math/big"
	"slices"
)

// natBits is how many bits the 256 digits of the greatest number have.
const natBits = 4096

// powerOfTwo is 2 to the power of k.
func powerOfTwo(k int) *big.Int {
	return new(big.Int).Lsh(big.NewInt(1), uint(k))
}

// moved is a number and a few more, or fewer.
func moved(n *big.Int, by int64) *big.Int {
	return new(big.Int).Add(n, big.NewInt(by))
}

// bigOf is the number of digits to the base 65536, the lowest first.
func bigOf(digits []int) *big.Int {
	sum := new(big.Int)
	for at := len(digits) - 1; at >= 0; at-- {
		sum.Lsh(sum, 16)
		sum.Add(sum, big.NewInt(int64(digits[at])))
	}
	return sum
}

// natOf is the digits of a number, however many.
func natOf(n *big.Int) []int {
	var digits []int
	for left := new(big.Int).Set(n); left.Sign() > 0; left.Rsh(left, 16) {
		digits = append(digits, int(new(big.Int).And(left, big.NewInt(65535)).Int64()))
	}
	return digits
}

// fits says whether a number has at most 256 digits.
func fits(n *big.Int) bool { return n.BitLen() <= natBits }

// someNat is a number of just so many digits, among which the least, the greatest and the middle ones are often found.
func someNat(s *spread, count int) *big.Int {
	digits := make([]int, count)
	for at := range digits {
		digits[at] = someDigit(s)
	}
	if count > 0 && digits[count-1] == 0 {
		digits[count-1] = 1
	}
	return bigOf(digits)
}

func someDigit(s *spread) int {
	edges := []int{0, 0, 1, 32767, 32768, 65534, 65535, 65535}
	if s.next()%2 == 0 {
		return edges[s.next()%uint64(len(edges))]
	}
	return int(s.next() % 65536)
}

// nats are numbers of at most 256 digits: the edges, and some of each length.
func nats() []*big.Int {
	var out []*big.Int
	for n := range int64(18) {
		out = append(out, big.NewInt(n))
	}
	for _, k := range []int{8, 15, 16, 17, 31, 32, 33, 48, 63, 64, 65, 80, 1024, 2047, 2048, 2049, 4079, 4080, 4081, 4095} {
		out = append(out, moved(powerOfTwo(k), -1), powerOfTwo(k), moved(powerOfTwo(k), 1))
	}
	out = append(out, moved(powerOfTwo(natBits), -2), moved(powerOfTwo(natBits), -1))
	s := spread{5}
	for _, count := range []int{1, 1, 1, 2, 2, 2, 3, 3, 3, 4, 4, 5, 6, 7, 9, 12, 17, 30, 64, 100, 127, 128, 129, 200, 255, 255, 256, 256} {
		out = append(out, someNat(&s, count))
	}
	return out
}

// wrongNats are lists that are no numbers: a last digit 0, a digit of 65536 or below 0 at each of some places, too many digits.
func wrongNats() [][]int {
	long := natOf(moved(powerOfTwo(natBits), -1))
	out := [][]int{{0}, {0, 0}, {1, 0}, {7, 65535, 0}, append(slices.Clone(long[:255]), 0)}
	out = append(out, append(slices.Clone(long), 1), append(slices.Clone(long), 0), slices.Repeat([]int{1}, 257), slices.Repeat([]int{3}, 1000), make([]int, 256), make([]int, 257))
	for _, good := range [][]int{{1}, {5, 9}, {1, 2, 3}, long} {
		for _, at := range []int{0, len(good) / 2, len(good) - 1} {
			for _, digit := range []int{math.MinInt, -65536, -65535, -2, -1, 65536, 65537, 1 << 32, math.MaxInt} {
				wrong := slices.Clone(good)
				wrong[at] = digit
				out = append(out, wrong)
			}
		}
	}
	return out
}

// isNat says whether digits are those of this number.
func isNat(digits []int, n *big.Int) bool { return slices.Equal(digits, natOf(n)) }
