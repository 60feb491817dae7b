package tests

import (
	"strconv"
	"strings"
	"testing"

	"loop.example/pinfold/impl"
)

func checkName(t *testing.T, text string) {
	t.Helper()
	if want := isName(text); impl.LangNameOk(text) != want {
		t.Errorf("LangNameOk %q: %v", text, !want)
	}
}

func checkNumber(t *testing.T, text string) {
	t.Helper()
	if want := isLiteral(text); impl.LangNumOk(text) != want {
		t.Errorf("LangNumOk %q: %v", text, !want)
	}
}

func TestLimitsOfTheLanguage(t *testing.T) {
	if impl.LangMaxText != 8000 || impl.LangMaxLine != 1000 || impl.LangMaxTokens != 300 || impl.LangMaxName != 8 || impl.LangMaxNumber != 60 {
		t.Error("limits of lines")
	}
	if impl.TermMaxNodes != 100 || impl.TermMaxArgs != 6 || impl.TermMaxPower != 8 {
		t.Error("limits of terms")
	}
	if impl.TokenName != 1 || impl.TokenNumber != 2 || impl.TokenSign != 3 {
		t.Error("kinds of tokens")
	}
	if impl.LangTooLong != 1 || impl.LangBadByte != 2 || impl.LangBadNumber != 3 || impl.LangBadForm != 4 || impl.LangTooMany != 5 {
		t.Error("codes")
	}
}

func TestNames(t *testing.T) {
	for _, text := range []string{"a", "z", "x", "e", "k1", "a0", "a9", "x12", "abcdefg", "abcdefgh", "a1234567", "zzzzzzzz", "mi", "minx", "min1", "xmin", "maxx", "de", "defs", "vars", "sqr", "sqrtx", "absx", "inf", "nan"} {
		if !impl.LangNameOk(text) {
			t.Errorf("LangNameOk %q", text)
		}
	}
	for _, text := range []string{
		"", "abcdefghi", "a12345678", strings.Repeat("a", 9), strings.Repeat("a", 100000), "1", "0", "1k", "9a", "A", "Z", "aB", "aZ", "xY1", " ", " a", "a ", "a b", "a.b", "a.", ".a", "a_b", "_a", "a-b", "-a", "a+", "(a)", "a#",
		"`", "{", "a`", "a{", "a/", "a:", "a\x00", "\x00", "\x00a", "a\n", "a\t", "\ta", "\x80", "a\x80", "\xff", "a\xff", "é", "aé", "α", "aα", "ａ", "a１", "a١",
	} {
		if impl.LangNameOk(text) {
			t.Errorf("LangNameOk %q", text)
		}
	}
	for _, own := range wordsOfTheLanguage() {
		if impl.LangNameOk(own) || !impl.LangNameOk(own+"0") || !impl.LangNameOk("a"+own) || !impl.LangNameOk(own[:len(own)-1]) {
			t.Errorf("LangNameOk about %s", own)
		}
	}
}

// All texts of up to two bytes, whichever these are, ahead of a letter, behind one and alone.
func TestShortNames(t *testing.T) {
	for first := range 256 {
		for second := range 256 {
			text := string([]byte{byte(first), byte(second)})
			for _, name := range []string{text[:1], text, "a" + text, text + "a", "abcdef" + text, "abcdefg" + text} {
				checkName(t, name)
			}
		}
	}
}

// A number of the language has the form of a literal.
func TestNumbersOfTheLanguage(t *testing.T) {
	for _, text := range manyLiterals() {
		if !impl.LangNumOk(text) {
			t.Errorf("LangNumOk %q", text)
		}
	}
	for _, text := range noLiterals() {
		if impl.LangNumOk(text) {
			t.Errorf("LangNumOk %.100q", text)
		}
	}
	for _, row := range []struct {
		text string
		ok   bool
	}{
		{"0", true}, {"9", true}, {"10", true}, {"00", false}, {"01", false}, {"0.0", true}, {"1.", false}, {"1.0", true}, {".1", false}, {"1.e1", false},
		{"1e0", true}, {"1e-0", false}, {"1e00", false}, {"1e1", true}, {"1e-1", true}, {"1e01", false}, {"1e-01", false}, {"1e10", true}, {"1e010", false}, {"1e001", false}, {"1e99", true}, {"1e399", true}, {"1e400", true}, {"1e401", false}, {"1e-400", true}, {"1e-401", false}, {"1e999", false}, {"1e1000", false},
		{"-1", false}, {"+1", false}, {"1e+1", false}, {"1E1", false}, {"", false}, {"x", false}, {"1 ", false}, {" 1", false}, {"1#", false},
	} {
		if impl.LangNumOk(row.text) != row.ok {
			t.Errorf("LangNumOk %q: %v", row.text, !row.ok)
		}
	}
}

func TestNumbersOfTheLanguageAtTheLimits(t *testing.T) {
	for size := 50; size <= 70; size++ {
		for _, text := range []string{strings.Repeat("7", size), "0." + strings.Repeat("0", size-2), "1." + strings.Repeat("3", size-4) + "e9", strings.Repeat("5", size-5) + "e-400"} {
			if len(text) != size || impl.LangNumOk(text) != (size <= 60) {
				t.Errorf("LangNumOk of %d bytes: %q", size, text)
			}
		}
	}
	for power := range 1100 {
		for _, ahead := range []string{"1e", "1e-", "2.5e", "0e", "1e0", "1e-0", "1e00"} {
			checkNumber(t, ahead+strconv.Itoa(power))
		}
	}
}

func TestShortNumbersOfTheLanguage(t *testing.T) {
	alphabet := "019.e-"
	texts := []string{""}
	for from := 0; len(texts[from]) < 6; from++ {
		checkNumber(t, texts[from])
		for at := range len(alphabet) {
			texts = append(texts, texts[from]+alphabet[at:at+1])
		}
	}
	for first := range 256 {
		checkNumber(t, string([]byte{byte(first)}))
		checkNumber(t, string([]byte{'1', byte(first)}))
		checkNumber(t, string([]byte{'1', '.', byte(first)}))
		checkNumber(t, string([]byte{'1', 'e', byte(first)}))
	}
}
