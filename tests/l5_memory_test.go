package tests

import (
	"slices"
	"testing"

	"loop.example/pinfold/impl"
)

const natInk = -12345

// guardedNat is digits with spare room behind their end, and a way to see whether that or the digits were written to.
func guardedNat(digits []int) ([]int, func() bool) {
	room := append(slices.Clone(digits), 77, 78, 79, 80)
	before := slices.Clone(room)
	return room[:len(digits)], func() bool { return slices.Equal(room, before) }
}

// No function writes into a list that it was handed, or gives back the memory of one.
func TestNumbersShareNoMemory(t *testing.T) {
	lists := append([][]int{nil, {0}, {65536}, {-1, 1}, slices.Repeat([]int{1}, 257), slices.Repeat([]int{1}, 256)}, []int{1}, []int{2}, []int{6}, []int{65535}, []int{0, 1}, []int{4, 6}, []int{0, 0, 8}, []int{65535, 65535, 1}, []int{1, 0, 32768})
	for _, digits := range lists {
		a, clean := guardedNat(digits)
		checkAloneClean(a)
		if !clean() {
			t.Errorf("%v is written to", digits)
		}
		for _, others := range lists {
			b, cleanB := guardedNat(others)
			checkTwoClean(t, a, b)
			if !clean() || !cleanB() {
				t.Errorf("%v or %v is written to", digits, others)
			}
		}
		checkTwoClean(t, a, a)
		if !clean() {
			t.Errorf("%v, twice, is written to", digits)
		}
	}
}

// checkAloneClean asks for all that is made of one number, and writes all over the answers.
func checkAloneClean(a []int) {
	impl.NatOk(a)
	impl.NatSmall(a)
	impl.NatBits(a)
	impl.NatText(a)
	for _, k := range []int{-4096, -17, -16, -1, 0, 1, 16, 17, 4096} {
		out, _ := impl.NatShift(a, k)
		scribble(out, natInk)
	}
	for _, n := range []int{-1, 0, 1, 2, 3, 64, 65} {
		out, _ := impl.NatPow(a, n)
		scribble(out, natInk)
	}
	root, _, _ := impl.NatRoot(a)
	scribble(root, natInk)
}

// checkTwoClean does so with all that is made of two numbers; a quotient and its rest share nothing either.
func checkTwoClean(t *testing.T, a []int, b []int) {
	t.Helper()
	impl.NatCmp(a, b)
	sum, _ := impl.NatAdd(a, b)
	scribble(sum, natInk)
	difference, _ := impl.NatSub(a, b)
	scribble(difference, natInk)
	product, _ := impl.NatMul(a, b)
	scribble(product, natInk)
	divisor, _ := impl.NatGcd(a, b)
	scribble(divisor, natInk)
	quotient, rest, _ := impl.NatDiv(a, b)
	before := slices.Clone(rest)
	scribble(quotient, natInk)
	if !slices.Equal(rest, before) {
		t.Errorf("%v by %v: quotient and rest share memory", a, b)
	}
	scribble(rest, natInk)
}

// What a call answers is not kept: what is written into it is not to be seen in the next answer.
func TestNumbersAreNotKept(t *testing.T) {
	for range 2 {
		number := impl.NatOf(1<<40 + 5)
		if !slices.Equal(number, []int{5, 0, 256}) {
			t.Errorf("NatOf: %v", number)
		}
		scribble(number, natInk)
		read, ok := impl.NatRead("1099511627781")
		if !ok || !slices.Equal(read, []int{5, 0, 256}) {
			t.Errorf("NatRead: %v", read)
		}
		scribble(read, natInk)
		one, ok := impl.NatPow([]int{7}, 0)
		if !ok || !slices.Equal(one, []int{1}) {
			t.Errorf("NatPow: %v", one)
		}
		scribble(one, natInk)
	}
}
