package tests

import (
	"slices"
	"strings"
	"testing"

	"loop.example/pinfold/impl"
)

// fitsLimits says whether a text, its lines and their tokens are within the limits.
func fitsLimits(text string) bool {
	tooLong := func(line string) bool { return !inLimits(line) }
	return len(text) <= 8000 && !slices.ContainsFunc(linesOf(text), tooLong)
}

// Promise 38: an ok problem is read back from its text, within the limits.
func TestProblemsComeBackFromTheirTexts(t *testing.T) {
	t.Parallel()
	s := spread{171}
	read, beyond := 0, 0
	for at := range 1500 {
		p := someProg(&s, []int{3, 10, 40, 100}[at%4])
		text := impl.ProgText(p)
		if text != textOfProg(p) {
			t.Errorf("ProgText %v: %q", p, text)
		}
		got, fault := impl.ProgRead(text)
		if !fitsLimits(text) {
			beyond++
			if fault.Code == 0 || !isNothing(got) {
				t.Errorf("ProgRead %q: %v", text, got)
			}
			continue
		}
		read++
		if fault != (impl.LangFault{}) || !sameProg(got, p) {
			t.Errorf("ProgRead %q: %v, %v, not %v", text, got, fault, p)
		}
	}
	if read < 700 || beyond < 50 {
		t.Errorf("only %d problems, and %d beyond the limits", read, beyond)
	}
}

// sumOf is a sum of x and so many numbers of 60 digits.
func sumOf(count int) impl.Term {
	sum := nameOnly("x")
	for range count {
		sum = over(bareNode(impl.TermAdd), sum, termWith(numberNode(strings.Repeat("9", 60))))
	}
	return sum
}

// checkBackOf reads the text of an ok problem back, if it is within the limits, and answers the text.
func checkBackOf(t *testing.T, p impl.Prog) string {
	t.Helper()
	text := impl.ProgText(p)
	got, fault := impl.ProgRead(text)
	fits := fitsLimits(text)
	if text == "" || fits != (fault.Code == 0) || fits != sameProg(got, p) {
		t.Errorf("ProgRead %q: %v, %v", text, got, fault)
	}
	return text
}

// checkReached sees that a limit was met, and that there was one more.
func checkReached(t *testing.T, what string, seen map[int]int, limit int) {
	t.Helper()
	if seen[limit] == 0 || seen[limit+1] == 0 {
		t.Errorf("%s: %d and one more are not there", what, limit)
	}
}

// Promise 38: texts of LangMaxText bytes come back, those of one more do not.
func TestProblemsComeBackWithMostBytes(t *testing.T) {
	seen := map[int]int{}
	for digits := 1; digits <= 60; digits++ {
		p := impl.Prog{Vars: []string{"x"}}
		for range 8 {
			addRel(3, nameOnly("x"), sumOf(15))(&p)
		}
		addRel(3, nameOnly("x"), sumOf(5))(&p)
		addRel(3, over(powNode(2), nameOnly("x")), termWith(numberNode(strings.Repeat("8", digits))))(&p)
		seen[len(checkBackOf(t, p))]++
	}
	checkReached(t, "bytes of a text", seen, 8000)
}

// Promise 38: so do lines of LangMaxLine bytes, of a definition and of a relation.
func TestProblemsComeBackWithLongestLines(t *testing.T) {
	defs, rels := map[int]int{}, map[int]int{}
	for digits := 1; digits <= 60; digits++ {
		number := termWith(numberNode(strings.Repeat("8", digits)))
		p := impl.Prog{Vars: []string{"y"}}
		addDef("f", []string{"x"}, over(bareNode(impl.TermSub), sumOf(15), number))(&p)
		addRel(1, nameOnly("y"), nameOnly("y"))(&p)
		defs[len(linesOf(checkBackOf(t, p))[0])]++
		p = impl.Prog{Vars: []string{"x"}}
		addRel(2, over(bareNode(impl.TermSub), sumOf(7), number), sumOf(8))(&p)
		rels[len(linesOf(checkBackOf(t, p))[1])]++
	}
	checkReached(t, "bytes of a definition", defs, 1000)
	checkReached(t, "bytes of a relation", rels, 1000)
}

// Promise 38: so do lines of LangMaxTokens tokens.
func TestProblemsComeBackWithMostTokens(t *testing.T) {
	defs, rels := map[int]int{}, map[int]int{}
	for count := 65; count <= 85; count++ {
		for signs := range 5 {
			// Each power of a power takes four tokens, a sign one.
			term := over(bareNode(impl.TermMul), chain(powNode(2), count), chain(bareNode(impl.TermNeg), signs))
			p := impl.Prog{Vars: []string{"x"}}
			addRel(2, term, nameOnly("x"))(&p)
			rels[len(textsOfLongLine(linesOf(checkBackOf(t, p))[1]))]++
			p = impl.Prog{Vars: []string{"y"}}
			addDef("f", []string{"x"}, term)(&p)
			addRel(1, nameOnly("y"), nameOnly("y"))(&p)
			defs[len(textsOfLongLine(linesOf(checkBackOf(t, p))[0]))]++
		}
	}
	checkReached(t, "tokens of a definition", defs, 300)
	checkReached(t, "tokens of a relation", rels, 300)
}

// textsOfLongLine are the tokens of a line that may have too many.
func textsOfLongLine(line string) []string {
	return slices.DeleteFunc(pieceForm.FindAllString(line, -1), func(piece string) bool { return piece == " " })
}

// Promise 38: what is read is ok, and is written and read again as the same.
func TestTextsAreWrittenAndReadAgain(t *testing.T) {
	t.Parallel()
	s := spread{172}
	read := 0
	for range 6000 {
		text := someText(&s)
		p, fault := impl.ProgRead(text)
		if fault.Code != 0 {
			if !isNothing(p) {
				t.Errorf("ProgRead %q: %v beside %v", text, p, fault)
			}
			continue
		}
		read++
		written := impl.ProgText(p)
		if impl.ProgCode(p) != 0 || written == "" {
			t.Errorf("ProgRead %q: %v is not ok", text, p)
		}
		if again, fault := impl.ProgRead(written); fitsLimits(written) && (fault != (impl.LangFault{}) || !sameProg(again, p) || impl.ProgText(again) != written) {
			t.Errorf("%q is written as %q, and read as %v, %v", text, written, again, fault)
		}
	}
	if read < 1000 {
		t.Errorf("only %d texts", read)
	}
}

// Promise 41: what stands behind a faulty line does not bear on its fault, if its code is one of 1 to 6.
func TestWhatStandsBehindAFault(t *testing.T) {
	t.Parallel()
	s := spread{173}
	seen := map[int]int{}
	for range 6000 {
		text := someText(&s)
		_, fault := impl.ProgRead(text)
		if fault.Code == 0 || fault.Code > impl.LangAgain || len(text) > 8000 {
			continue
		}
		seen[fault.Code]++
		ahead := strings.Join(linesOf(text)[:fault.Line], "\n")
		for _, behind := range []string{"", "\n", "\n" + pick(&s, faultyLines()).line, "\n" + pick(&s, namedLines()).line, "\nvar x\nx = 1\n", "\n" + someText(&s), "\n\x00", "\n" + ahead} {
			if len(ahead+behind) > 8000 {
				continue
			}
			if p, other := impl.ProgRead(ahead + behind); other != fault || !isNothing(p) {
				t.Errorf("ProgRead %q: %v, but with %q behind %v", text, fault, behind, other)
			}
		}
	}
	for code := impl.LangTooLong; code <= impl.LangAgain; code++ {
		if seen[code] < 50 {
			t.Errorf("code %d: only %d texts", code, seen[code])
		}
	}
}

// What stands ahead of a faulty line does bear on it, and what stands behind names does.
func TestWhatStandsBehindNames(t *testing.T) {
	checkFault(t, "x = y", 1, impl.LangNoName)
	checkFault(t, "x = y\nvar x", 1, impl.LangNoName)
	checkFault(t, "x = y\nvar x\nvar y", 0, 0)
	checkFault(t, "x = y\nvar x\ndef y(a) = a", 1, impl.LangBadArgs)
	checkFault(t, "x = y\nvar x\ndef y = 1", 0, 0)
	checkFault(t, "def f(y) = y\nx = y\nvar x\ndef y = 1", 1, impl.LangHidden)
}

// Promise 41: lines without tokens change nothing but the numbers of lines.
func TestLinesThatSayNothing(t *testing.T) {
	t.Parallel()
	s := spread{174}
	seen := map[int]int{}
	for range 4000 {
		text := someText(&s)
		p, fault := impl.ProgRead(text)
		want := fault
		var lines []string
		for at, line := range linesOf(text) {
			for range s.next() % 3 {
				lines = append(lines, pick(&s, silentLines()[:9]))
			}
			lines = append(lines, line)
			if at+1 == fault.Line {
				want.Line = len(lines)
			}
		}
		lines = append(lines, pick(&s, silentLines()))
		more := strings.Join(lines, "\n") + pick(&s, []string{"", "\n", "\n\n"})
		if len(text) > 8000 || len(more) > 8000 {
			continue
		}
		seen[fault.Code]++
		if got, other := impl.ProgRead(more); other != want || !sameProg(got, p) {
			t.Errorf("ProgRead %q: %v, but %q: %v, not %v", text, fault, more, other, want)
		}
	}
	for code := range 12 {
		if seen[code] < 15 {
			t.Errorf("code %d: only %d texts", code, seen[code])
		}
	}
	const good = "var x\nx = 1\n"
	for _, line := range silentLines() {
		for _, text := range []string{line + "\n" + good, "var x\n" + line + "\nx = 1\n", good + line, good + line + "\n", strings.Repeat(line+"\n", 3) + good} {
			checkFault(t, text, 0, 0)
		}
	}
}
