package tests

import (
	"strconv"
	"strings"
	"testing"

	"loop.example/pinfold/impl"
)

// Each pair of operations, one within the other, as first and as second part, with and without ( ).
func TestTextsOfPairs(t *testing.T) {
	for _, row := range [][2]string{
		{"(x+y)+z", "x + y + z"}, {"(x+y)-z", "x + y - z"}, {"(x+y)*z", "(x + y) * z"}, {"(x+y)/z", "(x + y) / z"},
		{"(x-y)+z", "x - y + z"}, {"(x-y)-z", "x - y - z"}, {"(x-y)*z", "(x - y) * z"}, {"(x-y)/z", "(x - y) / z"},
		{"(x*y)+z", "x * y + z"}, {"(x*y)-z", "x * y - z"}, {"(x*y)*z", "x * y * z"}, {"(x*y)/z", "x * y / z"},
		{"(x/y)+z", "x / y + z"}, {"(x/y)-z", "x / y - z"}, {"(x/y)*z", "x / y * z"}, {"(x/y)/z", "x / y / z"},
		{"x+(y+z)", "x + (y + z)"}, {"x-(y+z)", "x - (y + z)"}, {"x*(y+z)", "x * (y + z)"}, {"x/(y+z)", "x / (y + z)"},
		{"x+(y-z)", "x + (y - z)"}, {"x-(y-z)", "x - (y - z)"}, {"x*(y-z)", "x * (y - z)"}, {"x/(y-z)", "x / (y - z)"},
		{"x+(y*z)", "x + y * z"}, {"x-(y*z)", "x - y * z"}, {"x*(y*z)", "x * (y * z)"}, {"x/(y*z)", "x / (y * z)"},
		{"x+(y/z)", "x + y / z"}, {"x-(y/z)", "x - y / z"}, {"x*(y/z)", "x * (y / z)"}, {"x/(y/z)", "x / (y / z)"},
		{"x+y+z", "x + y + z"}, {"x+y-z", "x + y - z"}, {"x+y*z", "x + y * z"}, {"x+y/z", "x + y / z"}, {"x-y+z", "x - y + z"}, {"x-y-z", "x - y - z"}, {"x-y*z", "x - y * z"}, {"x-y/z", "x - y / z"},
		{"x*y+z", "x * y + z"}, {"x*y-z", "x * y - z"}, {"x*y*z", "x * y * z"}, {"x*y/z", "x * y / z"}, {"x/y+z", "x / y + z"}, {"x/y-z", "x / y - z"}, {"x/y*z", "x / y * z"}, {"x/y/z", "x / y / z"},
	} {
		checkTermText(t, row[0], row[1])
	}
}

// Signs and powers of each kind of thing, and each of these as a part.
func TestTextsOfSignsAndPowers(t *testing.T) {
	for _, row := range [][2]string{
		{"-1", "-1"}, {"-x", "-x"}, {"-(-x)", "--x"}, {"- - - x", "---x"}, {"-(x+y)", "-(x + y)"}, {"-(x-y)", "-(x - y)"}, {"-(x*y)", "-(x * y)"}, {"-(x/y)", "-(x / y)"}, {"-(x^2)", "-x^2"}, {"-x^2", "-x^2"}, {"-sqrt(x)", "-sqrt(x)"}, {"-(abs(x))", "-abs(x)"}, {"-min(x,y)", "-min(x, y)"}, {"-max(x,y)", "-max(x, y)"}, {"-(f(x))", "-f(x)"},
		{"1^2", "1^2"}, {"(1)^2", "1^2"}, {"x^0", "x^0"}, {"(-x)^2", "(-x)^2"}, {"(x+y)^2", "(x + y)^2"}, {"(x-y)^2", "(x - y)^2"}, {"(x*y)^2", "(x * y)^2"}, {"(x/y)^2", "(x / y)^2"}, {"(x^2)^3", "(x^2)^3"}, {"((x^1)^0)^8", "((x^1)^0)^8"}, {"(sqrt(x))^2", "sqrt(x)^2"}, {"abs(x)^2", "abs(x)^2"}, {"min(x,y)^2", "min(x, y)^2"}, {"(max(x,y))^2", "max(x, y)^2"}, {"(f(x))^2", "f(x)^2"}, {"2.5e-1^3", "2.5e-1^3"},
		{"(-x)+y", "-x + y"}, {"x+(-y)", "x + -y"}, {"(-x)-y", "-x - y"}, {"x-(-y)", "x - -y"}, {"(-x)*y", "-x * y"}, {"x*(-y)", "x * -y"}, {"(-x)/y", "-x / y"}, {"x/(-y)", "x / -y"}, {"x - (-(-y))", "x - --y"},
		{"(x^2)+y", "x^2 + y"}, {"x+(y^2)", "x + y^2"}, {"(x^2)*y", "x^2 * y"}, {"x/(y^2)", "x / y^2"}, {"x*(-(y^2))", "x * -y^2"}, {"-((-x)^2)", "-(-x)^2"}, {"((-x))^2", "(-x)^2"},
	} {
		checkTermText(t, row[0], row[1])
	}
	for n := range 9 {
		power := "^" + strconv.Itoa(n)
		checkTermText(t, "( x )"+power, "x"+power)
		checkTermText(t, "(x+y)"+power+"*z"+power, "(x + y)"+power+" * z"+power)
	}
}

func TestTextsOfCalls(t *testing.T) {
	for _, row := range [][2]string{
		{"f((x+y))", "f(x + y)"}, {"f((-x),(y*z),(x^2))", "f(-x, y * z, x^2)"}, {"f( x,y ,z , 1,2,3 )", "f(x, y, z, 1, 2, 3)"}, {"sqrt((x-y))", "sqrt(x - y)"}, {"abs((-x))", "abs(-x)"}, {"min((x+y),(x*y))", "min(x + y, x * y)"}, {"max(min(x,y),f(sqrt(z)))", "max(min(x, y), f(sqrt(z)))"},
		{"f(x)+g(y)", "f(x) + g(y)"}, {"x-(f(x))", "x - f(x)"}, {"(f(x))*(f(y))", "f(x) * f(y)"}, {"x/(sqrt(y))", "x / sqrt(y)"}, {"f(f(f(x)))", "f(f(f(x)))"}, {"x(x)", "x(x)"}, {"((1e-3))", "1e-3"}, {"x-1e-3", "x - 1e-3"}, {"0.50", "0.50"},
	} {
		checkTermText(t, row[0], row[1])
	}
	for _, kind := range termKinds() {
		sample := sampleOf(kind)
		grown, _ := branchOf(sample)
		if text := impl.TermText(sample); text != grown.text() {
			t.Errorf("TermText %v: %q", sample, text)
		}
	}
}

// Each kind of thing in each place of each other one.
func TestTextsOfEachPartOfEachKind(t *testing.T) {
	for _, outer := range termKinds() {
		whole, _ := branchOf(sampleOf(outer))
		for at := range whole.parts {
			for _, inner := range termKinds() {
				part, _ := branchOf(sampleOf(inner))
				grown, _ := branchOf(sampleOf(outer))
				grown.parts[at] = part
				term := grown.term()
				text := impl.TermText(term)
				if text != grown.text() {
					t.Errorf("TermText %v: %q, not %q", term, text, grown.text())
				}
				if again, code := impl.TermRead(text); code != 0 || !sameTerm(again, term) {
					t.Errorf("TermRead %q: %v, code %d, not %v", text, again, code, term)
				}
				checkNoNeedlessBrackets(t, text, term)
			}
		}
	}
}

// checkNoNeedlessBrackets takes each pair of ( ) away that is not a call's, and sees that the text is read otherwise then.
func checkNoNeedlessBrackets(t *testing.T, text string, term impl.Term) {
	t.Helper()
	for from := range len(text) {
		if text[from] != '(' || from > 0 && strings.Contains("abcdefghijklmnopqrstuvwxyz0123456789", text[from-1:from]) {
			continue
		}
		until, open := from+1, 1
		for ; open > 0; until++ {
			switch text[until] {
			case '(':
				open++
			case ')':
				open--
			}
		}
		without := text[:from] + text[from+1:until-1] + text[until:]
		if again, code := impl.TermRead(without); code == 0 && sameTerm(again, term) {
			t.Errorf("%q has needless ( ): %q", text, without)
		}
	}
}

func TestTextsOfAllKinds(t *testing.T) {
	t.Parallel()
	for at, term := range someTerms(125, 6000) {
		grown, _ := branchOf(term)
		text := impl.TermText(term)
		if text != grown.text() {
			t.Errorf("TermText %v: %q, not %q", term, text, grown.text())
		}
		if at%10 == 0 && inLimits(text) {
			checkNoNeedlessBrackets(t, text, term)
		}
	}
}

// The longest texts are written whole, though no line has room for them.
func TestTextsBeyondTheLimitsOfLines(t *testing.T) {
	long := strings.Repeat("9", 60)
	sum := termWith(numberNode(long))
	want := long
	for range 49 {
		sum.Nodes = append(sum.Nodes, numberNode(long), bareNode(impl.TermAdd))
		want += " + " + long
	}
	if text := impl.TermText(sum); text != want || len(text) <= 1000 {
		t.Errorf("a long sum: %q", text)
	}
	checkReadCode(t, want, impl.LangTooLong)
	powers := chain(powNode(7), 99)
	wantPowers := strings.Repeat("(", 98) + "x^7" + strings.Repeat(")^7", 98)
	if text := impl.TermText(powers); text != wantPowers {
		t.Errorf("many powers: %q", text)
	}
	checkReadCode(t, wantPowers, impl.LangTooMany)
}
