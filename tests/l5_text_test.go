package tests

import (
	"math/big"
	"slices"
	"strings"
	"testing"

	"loop.example/pinfold/impl"
)

// Promise 16: a number is read back from its text, a text that is read is the text of its number.
func TestNumbersFromTheirTexts(t *testing.T) {
	all := nats()
	ten := big.NewInt(10)
	for power := big.NewInt(1); fits(power); power = new(big.Int).Mul(power, ten) {
		all = append(all, moved(power, -1), power, moved(power, 1))
	}
	for _, n := range all {
		text := impl.NatText(natOf(n))
		if text != n.String() {
			t.Errorf("NatText %v: %q", n, text)
		}
		if back, ok := impl.NatRead(text); !ok || !isNat(back, n) {
			t.Errorf("NatRead %v: %v, %v", n, back, ok)
		}
	}
}

// readAs is the number that a text should be read as, or nothing.
func readAs(text string) *big.Int {
	for at := range len(text) {
		if text[at] < '0' || text[at] > '9' {
			return nil
		}
	}
	n, ok := new(big.Int).SetString(text, 10)
	if !ok || n.String() != text || !fits(n) || len(text) > 1300 {
		return nil
	}
	return n
}

func checkRead(t *testing.T, text string) {
	t.Helper()
	out, ok := impl.NatRead(text)
	want := readAs(text)
	if ok != (want != nil) || !ok && len(out) != 0 {
		t.Errorf("NatRead %q: %v, %v", text, out, ok)
		return
	}
	if ok && (!isNat(out, want) || impl.NatText(out) != text) {
		t.Errorf("NatRead %q: %v", text, out)
	}
}

func TestTextsThatAreRead(t *testing.T) {
	s := spread{3}
	for count := range 1302 {
		digits := make([]byte, count)
		for at := range digits {
			digits[at] = '0' + byte(s.next()%10)
		}
		checkRead(t, string(digits))
		checkRead(t, strings.Repeat("0", count))
		checkRead(t, strings.Repeat("9", count))
		if count > 0 {
			checkRead(t, "1"+strings.Repeat("0", count-1))
			digits[s.next()%uint64(count)] = byte(s.next())
			checkRead(t, string(digits))
		}
	}
}

func TestTextsThatAreNoNumbers(t *testing.T) {
	long := moved(powerOfTwo(natBits), -1).String()
	for _, text := range []string{
		"", "00", "01", "007", "00000000000001", "0" + long, "-1", "-0", "+1", "+0", " 1", "1 ", "1 2", " ", "\t1", "1\n", "\n", "1a", "a", "0x10", "1e3", "1.0", "1.", ".1", "1_000", "1,000", "1/1",
		"\x00", "1\x00", "\x001", "/", ":", "1/", "1:", "٣", "１", "1\xff", "\xff", "123456789012a", "123456789012 345", "123456789012-345", "123456789012+345", "-" + long, long + " ",
		powerOfTwo(natBits).String(), moved(powerOfTwo(natBits), 1).String(), long + "0", strings.Repeat("9", 1300), strings.Repeat("9", 1301), strings.Repeat("0", 1300), strings.Repeat("0", 1301),
		strings.Repeat("0", 1299) + "1", strings.Repeat("0", 1300) + "1", "1" + strings.Repeat("0", 1299), "1" + strings.Repeat("0", 1300), strings.Repeat(" ", 1299) + "1", strings.Repeat("1", 100000),
	} {
		if out, ok := impl.NatRead(text); ok || len(out) != 0 {
			t.Errorf("NatRead %q: %v", text, out)
		}
	}
	if out, ok := impl.NatRead(long); !ok || !slices.Equal(out, slices.Repeat([]int{65535}, 256)) {
		t.Error("the greatest number", ok)
	}
	if out, ok := impl.NatRead("0"); !ok || len(out) != 0 || impl.NatText(nil) != "0" || impl.NatText([]int{}) != "0" {
		t.Error("0", out, ok)
	}
}
