package tests

import (
	"math/big"
	"regexp"
	"strconv"
	"strings"
	"testing"

	"loop.example/pinfold/impl"
)

var literalForm = regexp.MustCompile(`\A(?:0|[1-9][0-9]*)(?:\.[0-9]+)?(?:e(0|-?[1-9][0-9]{0,2}))?\z`)

// isLiteral says whether a text should be a literal.
func isLiteral(text string) bool {
	found := literalForm.FindStringSubmatch(text)
	if found == nil || len(text) > 60 {
		return false
	}
	power, _ := strconv.Atoi(found[1])
	return power >= -400 && power <= 400
}

func checkLiteral(t *testing.T, text string) {
	t.Helper()
	want := isLiteral(text)
	if impl.DecOk(text) != want {
		t.Errorf("DecOk %q: %v", text, !want)
	}
	f, ok := impl.DecFrac(text)
	if ok != want {
		t.Errorf("DecFrac %q: %v", text, ok)
	}
	if !want {
		checkNoFrac(t, "DecFrac "+text, f, ok)
		return
	}
	value, is := new(big.Rat).SetString(text)
	if !is || !isFrac(f, value) || !impl.FracOk(f) {
		t.Errorf("DecFrac %q: %v", text, f)
	}
}

// manyLiterals are literals of each form, up to the longest.
func manyLiterals() []string {
	var out []string
	wholes := []string{"0", "1", "7", "10", "90", "100", "123", "65535", "65536", "18446744073709551616", strings.Repeat("9", 40)}
	behinds := []string{"", ".0", ".5", ".00", ".50", ".05", ".000000000001", ".125", ".3333333333", ".000"}
	powers := []string{"", "e0", "e1", "e-1", "e2", "e9", "e10", "e-10", "e99", "e100", "e-100", "e399", "e400", "e-400"}
	for _, whole := range wholes {
		for _, behind := range behinds {
			for _, power := range powers {
				if text := whole + behind + power; len(text) <= 60 {
					out = append(out, text)
				}
			}
		}
	}
	return out
}

func TestLimitsOfLiterals(t *testing.T) {
	if impl.DecMaxText != 60 || impl.DecMaxPower != 400 {
		t.Error("limits")
	}
}

func TestLiteralsOfEachForm(t *testing.T) {
	for _, text := range manyLiterals() {
		if !impl.DecOk(text) {
			t.Errorf("DecOk %q", text)
		}
		checkLiteral(t, text)
	}
}

// noLiterals are texts that break the form of a literal, or a limit, each in a way of its own.
func noLiterals() []string {
	return []string{
		"", "00", "01", "007", "00.5", "01.5", "01e1", ".", ".5", ".e1", "1.", "0.", "1.e1", "1..5", "1.5.5", "1.-5", "1.+5",
		"e", "e1", "1e", "1e-", "1e+", "1e+1", "1e+0", "1e-0", "1e00", "1e-00", "1e01", "1e-01", "1e001", "1e0123", "1e400 ", "1e401", "1e-401", "1e500", "1e999", "1e-999", "1e1000", "1e-1000", "1e0400", "1e4000",
		"1E1", "1E0", "1.5E-3", "1e1e1", "1e1.0", "1e.5", "1e--1", "1e-+1", "1ee1", "1e1-", "-1", "-0", "+1", "+0", "-1.5", "- 1",
		" 1", "1 ", " ", "1 .5", "1. 5", "1 e1", "1e 1", "\t1", "1\n", "\n", "a", "1a", "a1", "0x1", "1_0", "1,5", "1/2", "inf", "nan", "1f", "1d0",
		"/", ":", "1/", "1:", "1./", "1.:", "1e/", "1e:", "\x00", "1\x00", "\x001", "\xff", "1\xff", "1.\xff", "1e\xff", "١", "1.١", "１", "1．5", "1ｅ1", "é", "1\u0300",
		strings.Repeat("1", 61), strings.Repeat("0", 60), "0." + strings.Repeat("0", 59), "1" + strings.Repeat("0", 58) + "e1", strings.Repeat("1", 100000), "1." + strings.Repeat("0", 100000),
	}
}

func TestTextsThatAreNoLiterals(t *testing.T) {
	for _, text := range noLiterals() {
		if isLiteral(text) {
			t.Fatalf("%q is a literal", text)
		}
		checkLiteral(t, text)
	}
}

// The limits may be met exactly.
func TestLiteralsAtTheLimits(t *testing.T) {
	for _, text := range []string{
		strings.Repeat("9", 60), "1" + strings.Repeat("0", 59), "0." + strings.Repeat("0", 58), "0." + strings.Repeat("0", 57) + "1", "0." + strings.Repeat("9", 58), strings.Repeat("9", 58) + ".9",
		strings.Repeat("9", 56) + "e400", strings.Repeat("9", 55) + "e-400", "0." + strings.Repeat("9", 53) + "e-400", "0." + strings.Repeat("0", 54) + "e400", "0e400", "0e-400", "0.0e-400",
	} {
		if !isLiteral(text) {
			t.Fatalf("%q is no literal", text)
		}
		checkLiteral(t, text)
	}
	for size := 50; size <= 70; size++ {
		for _, text := range []string{strings.Repeat("3", size), "1." + strings.Repeat("0", size-2), "0." + strings.Repeat("7", size-4) + "e9", strings.Repeat("5", size-5) + "e-100"} {
			checkLiteral(t, text)
			if impl.DecOk(text) != (size <= 60) {
				t.Errorf("%d bytes", size)
			}
		}
	}
	for power := range 1100 {
		for _, ahead := range []string{"1e", "1e-", "2.5e", "0e", "1e0", "1e-0"} {
			checkLiteral(t, ahead+strconv.Itoa(power))
		}
	}
}

func TestShortTextsOfLiterals(t *testing.T) {
	alphabet := "019.e-"
	texts := []string{""}
	for from := 0; len(texts[from]) < 6; from++ {
		checkLiteral(t, texts[from])
		for at := range len(alphabet) {
			texts = append(texts, texts[from]+alphabet[at:at+1])
		}
	}
	s := spread{51}
	for range 2000 {
		some := manyLiterals()[s.next()%1000]
		wrong := []byte(some)
		wrong[s.next()%uint64(len(wrong))] = byte(s.next())
		checkLiteral(t, string(wrong))
		at := s.next() % uint64(len(some)+1)
		checkLiteral(t, some[:at]+string("0e.-+1 "[s.next()%7])+some[at:])
	}
}

// Promise 26, its first part: a further nought behind the point changes nothing, a power of 1 in place of none makes it ten times as much.
func TestLiteralsWithMoreBehind(t *testing.T) {
	ten := impl.FracInt(10)
	for _, text := range manyLiterals() {
		value, _ := impl.DecFrac(text)
		front, power, hasPower := strings.Cut(text, "e")
		if hasPower {
			power = "e" + power
		}
		if more := front + "0" + power; strings.Contains(front, ".") && len(more) <= 60 {
			if f, ok := impl.DecFrac(more); !ok || !sameFrac(f, value) {
				t.Errorf("%q: %v, but %q: %v", text, value, more, f)
			}
		}
		if more := text + "e1"; !hasPower && len(more) <= 60 {
			want, _ := impl.FracMul(value, ten)
			if f, ok := impl.DecFrac(more); !ok || !sameFrac(f, want) {
				t.Errorf("%q: %v, but %q: %v", text, value, more, f)
			}
		}
	}
}

// checkDecText holds the shortest literal against what math/big tells; the empty text says that there is none.
func checkDecText(t *testing.T, r *big.Rat) {
	t.Helper()
	want := ""
	if places, exact := r.FloatPrec(); exact && r.Sign() >= 0 {
		want = r.FloatString(places)
	}
	if len(want) > 60 {
		want = ""
	}
	text, ok := impl.DecText(fracOf(r))
	if text != want || ok != (want != "") {
		t.Errorf("DecText %v: %q, %v, not %q", r, text, ok, want)
	}
	if !ok {
		return
	}
	if back, is := impl.DecFrac(text); !is || !isFrac(back, r) || strings.Contains(text, "e") {
		t.Errorf("DecText %v: %q, which is %v", r, text, back)
	}
}

// Promise 26, its second part: DecText tells the value again, where there is one.
func TestLiteralsOfFractions(t *testing.T) {
	for _, r := range rats() {
		checkDecText(t, r)
		checkDecText(t, negRat(r))
	}
	for top := int64(-3); top < 60; top++ {
		for bottom := int64(1); bottom < 130; bottom++ {
			checkDecText(t, smallRat(top, bottom))
		}
	}
	for _, text := range manyLiterals() {
		value, _ := new(big.Rat).SetString(text)
		checkDecText(t, value)
	}
	for _, row := range [][2]string{{"0", "0"}, {"1", "1"}, {"100", "100"}, {"1/2", "0.5"}, {"25/2", "12.5"}, {"1/1024", "0.0009765625"}, {"1/3", ""}, {"1/6", ""}, {"7/5", "1.4"}, {"1/25", "0.04"}, {"-1/2", ""}, {"-1", ""}, {"10/7", ""}} {
		f, _ := impl.FracRead(row[0])
		if text, ok := impl.DecText(f); text != row[1] || ok != (row[1] != "") {
			t.Errorf("DecText %s: %q, %v", row[0], text, ok)
		}
	}
}

// A literal that would have more than 60 bytes is none.
func TestLiteralsOfFractionsAtTheLimit(t *testing.T) {
	ten := big.NewInt(10)
	for n := int64(50); n <= 70; n++ {
		power := new(big.Int).Exp(ten, big.NewInt(n), nil)
		for _, r := range []*big.Rat{
			wholeRat(power), wholeRat(moved(power, -1)), rat(big.NewInt(1), power), rat(moved(power, -1), power), rat(moved(power, 1), power), rat(moved(power, -1), ten), rat(moved(power, 1), ten),
			rat(big.NewInt(1), powerOfTwo(int(n))), rat(big.NewInt(1), new(big.Int).Exp(big.NewInt(5), big.NewInt(n), nil)), rat(big.NewInt(3), powerOfTwo(int(n))), rat(power, powerOfTwo(int(n)+3)),
		} {
			checkDecText(t, r)
		}
	}
	for _, row := range []struct {
		text  string
		there bool
	}{
		{strings.Repeat("9", 60), true}, {strings.Repeat("9", 61), false}, {"1/1" + strings.Repeat("0", 58), true}, {"1/1" + strings.Repeat("0", 59), false}, {"1/1" + strings.Repeat("0", 60), false}, {"1/1" + strings.Repeat("0", 400), false},
	} {
		f, _ := impl.FracRead(row.text)
		if text, ok := impl.DecText(f); ok != row.there || ok && len(text) != 60 || !ok && text != "" {
			t.Errorf("DecText %s: %q, %v", row.text, text, ok)
		}
	}
}
