package tests

import (
	"math/big"
	"strings"
	"testing"

	"loop.example/pinfold/impl"
)

// textOf is a fraction as it should be written: a bottom of 1 is not told.
func textOf(r *big.Rat) string { return r.RatString() }

// Promise 25, its first part: a fraction is read back from its text.
func TestFractionsFromTheirTexts(t *testing.T) {
	for _, r := range rats() {
		for _, r := range []*big.Rat{r, negRat(r)} {
			text := impl.FracText(fracOf(r))
			if text != textOf(r) {
				t.Errorf("FracText %v: %q", r, text)
			}
			if f, ok := impl.FracRead(text); !ok || !isFrac(f, r) {
				t.Errorf("FracRead %q: %v, %v", text, f, ok)
			}
		}
	}
}

// Promise 25, its second part: a text that is read is the text of its fraction.
func checkFracRead(t *testing.T, text string) {
	t.Helper()
	f, ok := impl.FracRead(text)
	if !ok {
		checkNoFrac(t, "FracRead "+text, f, ok)
	} else if !impl.FracOk(f) || impl.FracText(f) != text {
		t.Errorf("FracRead %q: %v, which is %q", text, f, impl.FracText(f))
	}
	r, isRat := new(big.Rat).SetString(text)
	if want := isRat && textOf(r) == text && fitsRat(r); ok != want {
		t.Errorf("FracRead %q: %v", text, ok)
	}
}

func TestShortTextsOfFractions(t *testing.T) {
	alphabet := "0123/- "
	texts := []string{""}
	for from := 0; len(texts[from]) < 5; from++ {
		checkFracRead(t, texts[from])
		for at := range len(alphabet) {
			texts = append(texts, texts[from]+alphabet[at:at+1])
		}
	}
	s := spread{41}
	for range 3000 {
		var text strings.Builder
		for range s.next() % 14 {
			text.WriteByte("0123456789/-/9."[s.next()%15])
		}
		checkFracRead(t, text.String())
	}
}

func TestTextsThatAreNoFractions(t *testing.T) {
	most, over := mostNat().String(), powerOfTwo(natBits).String()
	for _, text := range []string{
		"", "-", "/", "-/", "1/", "/1", "-1/", "-/1", "1/1", "-1/1", "0/1", "-0/1", "-0", "0/3", "0/0", "1/0", "2/4", "-2/4", "6/3", "+1", "+1/2", "--1", "-+1", "1/-2", "-1/-2", "1/+2", "1/2/3", "1//2", "1/2/",
		"01", "01/2", "1/02", "-01", "00", "00/1", " 1", "1 ", "1 /2", "1/ 2", "1/2 ", " 1/2", "- 1", "1\n", "\t1", "1.0", "1e3", "0x1", "1_0", "1,5", "a", "1/a", "a/1", "1\x00", "\x00", "\xff", "1/\xff", "−1", "½", "1⁄2", "１",
		over, "-" + over, "1/" + over, over + "/3", most + "/1", most + "/" + most, "1/" + most + "0", strings.Repeat("9", 1300), strings.Repeat("9", 1301) + "/2", "1/" + strings.Repeat("9", 1301), strings.Repeat("1", 100000), strings.Repeat("/", 1000), strings.Repeat("-", 1000) + "1",
	} {
		f, ok := impl.FracRead(text)
		checkNoFrac(t, "FracRead "+text, f, ok)
	}
	for _, text := range []string{"0", "1", "-1", "1/2", "-1/2", "10/3", most, "-" + most, "1/" + most, most + "/2", "2/" + most} {
		if f, ok := impl.FracRead(text); !ok || impl.FracText(f) != text {
			t.Errorf("FracRead %q: %v, %v", text, f, ok)
		}
	}
}
