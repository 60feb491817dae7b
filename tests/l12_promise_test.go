package tests

import (
	"slices"
	"strings"
	"testing"

	"loop.example/pinfold/impl"
)

// Promise 39: a term is read back from its text, within the limits of lines.
func TestTermsComeBackFromTheirTexts(t *testing.T) {
	t.Parallel()
	read, beyond := 0, 0
	terms := someTerms(141, 8000)
	for count := range 100 {
		terms = append(terms, chain(powNode(2), count), chain(callNode("abcdefgh", 1), count))
	}
	for _, term := range terms {
		text := impl.TermText(term)
		got, code := impl.TermRead(text)
		if !inLimits(text) {
			beyond++
			if code == 0 || len(got.Nodes) > 0 {
				t.Errorf("TermRead %q: %v", text, got)
			}
			continue
		}
		read++
		if code != 0 || !sameTerm(got, term) {
			t.Errorf("TermRead %q: %v, code %d, not %v", text, got, code, term)
		}
	}
	if read < 6000 || beyond < 20 {
		t.Errorf("only %d terms, and %d beyond the limits", read, beyond)
	}
}

// Promise 39: a text that is read is written and read again as the same, and so it is between ( and ), within the limits.
func TestTextsComeBackFromTheirTerms(t *testing.T) {
	t.Parallel()
	s := spread{142}
	for _, term := range someTerms(143, 4000) {
		grown, _ := branchOf(term)
		line := inBrackets(&s, grown)
		read, code := impl.TermRead(line)
		if code != 0 {
			continue
		}
		text := impl.TermText(read)
		checkReadAs(t, text, read)
		checkReadAs(t, "("+text+")", read)
		checkReadAs(t, "("+line+")", read)
		checkReadAs(t, "( ( "+line+" ) )", read)
		if again := impl.TermText(mustRead(t, text)); again != text {
			t.Errorf("%q is written as %q, and then as %q", line, text, again)
		}
	}
}

func checkReadAs(t *testing.T, line string, want impl.Term) {
	t.Helper()
	if !inLimits(line) {
		return
	}
	if got, code := impl.TermRead(line); code != 0 || !sameTerm(got, want) {
		t.Errorf("TermRead %q: %v, code %d, not %v", line, got, code, want)
	}
}

// Texts that just meet the limits of lines are read back, between ( and ) too where these have room.
func TestTermsComeBackAtTheLimitsOfLines(t *testing.T) {
	for bytes := 980; bytes <= 1005; bytes++ {
		// Fifteen numbers of 60 bytes, and one that fills the line.
		line := strings.Repeat(strings.Repeat("9", 60)+" + ", 15)
		line += strings.Repeat("8", bytes-len(line))
		checkReadCode(t, line, codeWithin(0, line))
		checkReadCode(t, "("+line+")", codeWithin(0, "("+line+")"))
		if read, code := impl.TermRead(line); code == 0 && impl.TermText(read) != line {
			t.Errorf("%q: %q", line, impl.TermText(read))
		}
	}
	for count := 70; count <= 80; count++ {
		line := strings.Repeat("(", count-1) + "x^2" + strings.Repeat(")^2", count-1)
		checkReadCode(t, line, codeWithin(0, line))
		checkReadCode(t, "("+line+")", codeWithin(0, "("+line+")"))
	}
}

// Promise 45: names for themselves change nothing.
func TestNamesForThemselves(t *testing.T) {
	t.Parallel()
	for _, term := range someTerms(144, 2000) {
		names := impl.TermNames(term)
		for _, list := range [][]string{nil, names, someNames()} {
			var with []impl.Term
			for _, name := range list {
				with = append(with, nameOnly(name))
			}
			if put, ok := impl.TermPut(term, list, with); !ok || !sameTerm(put, term) {
				t.Errorf("TermPut %v, %q for themselves: %v, %v", term, list, put, ok)
			}
		}
	}
}

// namesAlone are the names of a term that are not called.
func namesAlone(term impl.Term) []string {
	var names []string
	for _, node := range term.Nodes {
		if node.Kind == impl.TermName {
			names = append(names, node.Text)
		}
	}
	return names
}

// Promise 45: names that come in are there, those that went are not.
func TestNamesThatComeAndGo(t *testing.T) {
	t.Parallel()
	s := spread{145}
	terms := someTerms(146, 4000)
	for at, term := range terms {
		if len(namesAlone(term)) == 0 {
			continue
		}
		name, with := pick(&s, namesAlone(term)), terms[(at+1)%len(terms)]
		put, ok := impl.TermPut(term, []string{name}, []impl.Term{with})
		if !ok {
			continue
		}
		names := impl.TermNames(put)
		for _, other := range impl.TermNames(with) {
			if !slices.Contains(names, other) {
				t.Errorf("TermPut %v, %q, %v: %q did not come in", term, name, with, other)
			}
		}
		if !slices.Contains(namesAlone(with), name) && slices.Contains(namesAlone(put), name) {
			t.Errorf("TermPut %v, %q, %v: it did not go", term, name, with)
		}
	}
}

// Promise 45: two puts of one name each are one of both, if what comes in names neither.
func TestTwoPutsAreOne(t *testing.T) {
	t.Parallel()
	s := spread{147}
	terms := someTerms(148, 6000)
	compared := 0
	for at, term := range terms {
		first, second := pick(&s, someNames()), pick(&s, someNames())
		with := []impl.Term{terms[(at+1)%len(terms)], terms[(at+2)%len(terms)]}
		in := append(impl.TermNames(with[0]), impl.TermNames(with[1])...)
		if first == second || slices.Contains(in, first) || slices.Contains(in, second) {
			continue
		}
		both, ok := impl.TermPut(term, []string{first, second}, with)
		turned, _ := impl.TermPut(term, []string{second, first}, []impl.Term{with[1], with[0]})
		one, isOne := impl.TermPut(term, []string{first}, with[:1])
		two, isTwo := impl.TermPut(one, []string{second}, with[1:])
		if ok != (isOne && isTwo) || !sameTerm(both, two) || !sameTerm(both, turned) {
			t.Errorf("TermPut %v, %q and %q, %v: %v, but one by one %v", term, first, second, with, both, two)
		}
		if ok {
			compared++
		}
	}
	if compared < 500 {
		t.Errorf("only %d puts", compared)
	}
}

// Promise 47: a term has at least as many nodes as it is deep; with a - ahead it is one deeper.
func TestDepthsAndNodes(t *testing.T) {
	t.Parallel()
	for _, term := range someTerms(149, 4000) {
		depth := impl.TermDepth(term)
		if depth < 1 || depth > len(term.Nodes) {
			t.Errorf("TermDepth %v: %d", term, depth)
		}
		signed := over(bareNode(impl.TermNeg), term)
		want := depth + 1
		if len(signed.Nodes) > 100 {
			want = 0
		}
		if got := impl.TermDepth(signed); got != want {
			t.Errorf("TermDepth %v: %d, but with a - ahead %d", term, depth, got)
		}
		line := "-(" + impl.TermText(term) + ")"
		if read, code := impl.TermRead(line); code == 0 && impl.TermDepth(read) != want {
			t.Errorf("TermDepth %q: %d, not %d", line, impl.TermDepth(read), want)
		}
	}
}
