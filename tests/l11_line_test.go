package tests

import (
	"slices"
	"strings"
	"testing"

	"loop.example/pinfold/impl"
)

func TestLinesAreCut(t *testing.T) {
	for _, row := range [][2]string{
		{"", ""}, {" ", ""}, {"      ", ""}, {"#", ""}, {"  # x", ""}, {"##", ""}, {"x", "x"}, {" x ", "x"}, {"x y", "x y"}, {"xy", "xy"}, {"x+y", "x + y"}, {"x #y", "x"}, {"x#y#z", "x"}, {"x+#", "x +"},
		{"def f(a,b)=a*b", "def f ( a , b ) = a * b"}, {"var x", "var x"}, {"sqrt(min(x,max(y,abs(z))))", "sqrt ( min ( x , max ( y , abs ( z ) ) ) )"},
		{"+-*/^(),=<=>=", "+ - * / ^ ( ) , = <= >="}, {"==", "= ="}, {"<==", "<= ="}, {">==", ">= ="}, {"=<=", "= <="}, {"=>=", "= >="}, {"<=>=", "<= >="}, {"<=<=", "<= <="}, {"x<=-y", "x <= - y"}, {"--x", "- - x"},
		{"2.5", "2.5"}, {"2.50e-10", "2.50e-10"}, {"x=2.5e-1*y", "x = 2.5e-1 * y"}, {"1,2", "1 , 2"}, {"2^3", "2 ^ 3"}, {"2(3)", "2 ( 3 )"},
	} {
		checkPieces(t, row[0], row[1])
	}
}

// A minus goes on with a word just if the word begins with a digit and the minus stands directly behind an e.
func TestMinusBehindAnE(t *testing.T) {
	for _, row := range [][2]string{
		{"2e-1", "2e-1"}, {"2-1", "2 - 1"}, {"2e1-1", "2e1 - 1"}, {"2e-1-1", "2e-1 - 1"}, {"2e0-1", "2e0 - 1"}, {"2 -1", "2 - 1"}, {"2e-1e", ""}, {"1.5e-2-e-2", "1.5e-2 - e - 2"},
		{"e-1", "e - 1"}, {"xe-1", "xe - 1"}, {"x1e-5", "x1e - 5"}, {"e2e-1", "e2e - 1"}, {"e-e", "e - e"}, {"2-e-1", "2 - e - 1"}, {"2*e-1", "2 * e - 1"}, {"(2)e-1", "( 2 ) e - 1"},
	} {
		if row[1] == "" {
			checkLineCode(t, row[0], impl.LangBadNumber)
			continue
		}
		checkPieces(t, row[0], row[1])
	}
	for _, line := range []string{"2e-", "2e--1", "2e-x", "2e -1", "2e- 1", "2e", "2e-1e-1", "2e-e-1", "2ee-1", "2.e-1", "2x-1", "2e-1.5", "2e-01", "2e-401", "2xe-1", "2e-+1", "2e-(", "0e-0", "2e-1x"} {
		checkLineCode(t, line, impl.LangBadNumber)
	}
}

func TestKindsOfTokens(t *testing.T) {
	for _, word := range append(wordsOfTheLanguage(), "x", "abcdefgh", "e1") {
		checkTokenKind(t, word, impl.TokenName)
	}
	for _, number := range []string{"0", "12", "1.5", "1e-400", strings.Repeat("9", 60)} {
		checkTokenKind(t, number, impl.TokenNumber)
	}
	for _, sign := range allSigns() {
		checkTokenKind(t, sign, impl.TokenSign)
	}
}

func checkTokenKind(t *testing.T, text string, kind int) {
	t.Helper()
	tokens, code := impl.LangTokens(" " + text + " ")
	if code != 0 || len(tokens) != 1 || tokens[0] != (impl.LangToken{Kind: kind, Text: text}) {
		t.Errorf("LangTokens %q: %v, code %d", text, tokens, code)
	}
}

// Of all bytes, alone, within words and between signs.
func TestBytesOfLines(t *testing.T) {
	good := "abcdefghijklmnopqrstuvwxyz0123456789 +-*/^(),=#"
	for b := range 256 {
		text := string([]byte{byte(b)})
		want := impl.LangBadByte
		if strings.Contains(good, text) {
			want = 0
		}
		checkLineCode(t, text, want)
		checkLineCode(t, "x + "+text+" ", want)
		checkLineCode(t, "x # "+text, 0)
		for _, line := range []string{"x" + text, text + "x", "1" + text, text + "1", "1e" + text + "1", "<" + text, text + "=", "(" + text + ")", "x" + text + "y", "1." + text, "1e-" + text} {
			checkLine(t, line)
		}
	}
	for _, line := range []string{"\t", "x\ty", "x\n", "\nx", "x\r\n", "x\vy", "x\u00a0y", "x\u2003y", "é", "x é", "x\u00b2", "x − y", "x ≤ y", "\xe2\x88", "\xff", "x<y", "x>y", "x< =y", "x> =y", "=>", "=<", "<", ">", "<>", "><", ".5", ".", "..", "x..", "X", "xY", "x_1", "x'", "x;", "x!", "x:=y", "[x]", "{x}", "x%y", "x&y", "x|y", "x?y", "~x", "$x", "@x", "x\\"} {
		checkLineCode(t, line, impl.LangBadByte)
	}
}

func TestWordsThatAreNoNames(t *testing.T) {
	for _, line := range []string{"x.5", "x.", "x.y", "e.", "abcdefg.", "min.", "abcdefghi", "a12345678", "sqrt12345", strings.Repeat("a", 9), strings.Repeat("a", 1000), "x + abcdefghi", "abcdefghi + x"} {
		checkLineCode(t, line, impl.LangBadByte)
	}
	for _, line := range []string{"2x", "2x.y", "1.", "1..2", "1.2.3", "00", "007", "0x1", "1e", "1e401", "1e-401", "1abcdefghijk", strings.Repeat("9", 61), strings.Repeat("9", 1000), "0." + strings.Repeat("0", 59), "1e1e1", "1.5.e"} {
		checkLineCode(t, line, impl.LangBadNumber)
	}
}

func TestShortLines(t *testing.T) {
	t.Parallel()
	alphabet := "xe10.-+<=# "
	lines := []string{""}
	for from := 0; from < len(lines); from++ {
		checkLine(t, lines[from])
		if len(lines[from]) == 5 {
			continue
		}
		for at := range len(alphabet) {
			lines = append(lines, lines[from]+alphabet[at:at+1])
		}
	}
}

func TestLinesOfAllKinds(t *testing.T) {
	t.Parallel()
	s := spread{111}
	for round := range 4000 {
		checkLine(t, someLine(&s, int(s.next()%30), round%2 == 0))
	}
	for range 2000 {
		line := []byte(someLine(&s, 12, false))
		for range 1 + s.next()%3 {
			line[s.next()%uint64(len(line))] = byte(s.next())
		}
		checkLine(t, string(line))
	}
	for range 200 {
		checkLine(t, someLine(&s, 280+int(s.next()%40), s.next()%2 == 0))
	}
}

// A line of just LangMaxLine bytes is cut, whatever stands behind the #; one of a byte more is not.
func TestLongLines(t *testing.T) {
	for _, row := range []struct {
		ahead, fill, behind string
		code                int
	}{
		{"x", " ", "", 0}, {"", " ", "x", 0}, {"", " ", "", 0}, {"x # ", "{", "", 0}, {"x # ", "a", "", 0}, {"#", "\xff", "", 0}, {"x", " ", "# {", 0}, {"# {", " ", "x", 0},
		{"x {", " ", "# {", impl.LangBadByte}, {"{ # ", "{", "", impl.LangBadByte}, {"x ", "{", " # x", impl.LangBadByte}, {"", "a", "", impl.LangBadByte}, {"", "1", "", impl.LangBadNumber}, {"", "+", "", impl.LangTooMany},
	} {
		for size := 990; size <= 1010; size++ {
			line := row.ahead + strings.Repeat(row.fill, size-len(row.ahead)-len(row.behind)) + row.behind
			want := row.code
			if size > 1000 {
				want = impl.LangTooLong
			}
			checkLineCode(t, line, want)
		}
	}
	checkLineCode(t, strings.Repeat("x ", 1000000), impl.LangTooLong)
}

// Where a line has more than one fault, the code that is listed first is told, wherever the faults stand.
func TestCodesOfLinesInOrder(t *testing.T) {
	many := strings.Repeat("+", 301)
	faults := []struct {
		text string
		code int
	}{
		{strings.Repeat(" ", 1001), impl.LangTooLong}, {"{", impl.LangBadByte}, {"x.5", impl.LangBadByte}, {"abcdefghi", impl.LangBadByte}, {"<", impl.LangBadByte}, {"\xff", impl.LangBadByte}, {"2x", impl.LangBadNumber}, {"1e401", impl.LangBadNumber}, {"2e-", impl.LangBadNumber}, {many, impl.LangTooMany},
	}
	for _, first := range faults {
		for _, second := range faults {
			want := min(first.code, second.code)
			checkLineCode(t, first.text+" "+second.text, want)
			checkLineCode(t, "x + "+first.text+" * "+second.text+" - y", want)
			checkLineCode(t, second.text+" "+first.text+" "+second.text, want)
			if second.code != impl.LangTooLong {
				checkLineCode(t, first.text+" # "+second.text, first.code)
			}
		}
	}
	// Each word is looked at, the last one too.
	checkLineCode(t, "2x 3y 4z {", impl.LangBadByte)
	checkLineCode(t, "{ 2x 3y 4z", impl.LangBadByte)
	checkLineCode(t, "2x"+strings.Repeat("+", 300), impl.LangBadNumber)
	checkLineCode(t, strings.Repeat("+", 300)+"2x", impl.LangBadNumber)
	checkLineCode(t, strings.Repeat("+", 300)+"{", impl.LangBadByte)
}

func TestManyTokens(t *testing.T) {
	for _, row := range []struct{ token, between string }{{"+", ""}, {"+", " "}, {"(", ""}, {"x", " "}, {"1", " "}, {"<=", ""}, {"<=", " "}, {"x+", ""}, {"1,", ""}} {
		isSingle := len(row.token) == 1 || row.token == "<="
		for count := 298; count <= 303; count++ {
			repeats, want := count, 0
			if !isSingle {
				repeats = count / 2
			}
			line := strings.Repeat(row.token+row.between, repeats)
			if !isSingle && count%2 == 1 {
				line += "-"
			}
			if count > 300 {
				want = impl.LangTooMany
			}
			checkLineCode(t, line, want)
			checkLineCode(t, line+"# + + +", want)
		}
	}
}

// Promise 40: more blanks between the tokens, and a comment behind, change nothing, as long as the line is not too long.
func TestBlanksAndCommentsChangeNothing(t *testing.T) {
	t.Parallel()
	s := spread{112}
	comments := []string{"", "#", "# x", "#{}", "# 2x \xff\x00\n\t", "##", "#" + strings.Repeat("+", 301)}
	for range 4000 {
		tokens, code := impl.LangTokens(someLine(&s, int(s.next()%40), false))
		if code != 0 {
			// Two pieces without a blank between may be one that is faulty.
			continue
		}
		line := strings.Repeat(" ", int(s.next()%4))
		for _, token := range tokens {
			line += token.Text + strings.Repeat(" ", 1+int(s.next()%5))
		}
		line += pick(&s, comments)
		again, code := impl.LangTokens(line)
		if len(line) > impl.LangMaxLine {
			checkLineCode(t, line, impl.LangTooLong)
		} else if code != 0 || !slices.Equal(again, tokens) {
			t.Errorf("LangTokens %q: %v, code %d, not %v", line, again, code, tokens)
		}
	}
}

// What is answered is not kept, and a comment's bytes are not told.
func TestTokensAreNotKept(t *testing.T) {
	for range 2 {
		tokens, code := impl.LangTokens("x + 1 # y")
		want := []impl.LangToken{{Kind: 1, Text: "x"}, {Kind: 3, Text: "+"}, {Kind: 2, Text: "1"}}
		if code != 0 || !slices.Equal(tokens, want) {
			t.Errorf("LangTokens: %v, code %d", tokens, code)
		}
		scribble(tokens, impl.LangToken{Kind: 9, Text: "ink"})
	}
}
