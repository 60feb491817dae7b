package tests

import (
	"slices"
	"strings"
	"testing"

	"loop.example/pinfold/impl"
)

func TestTermsAreRead(t *testing.T) {
	x, y, z := nameOnly("x"), nameOnly("y"), nameOnly("z")
	add, sub, mul, div, neg := bareNode(impl.TermAdd), bareNode(impl.TermSub), bareNode(impl.TermMul), bareNode(impl.TermDiv), bareNode(impl.TermNeg)
	for _, row := range []struct {
		line string
		want impl.Term
	}{
		{"x", x}, {"1.5e-3", termWith(numberNode("1.5e-3"))}, {"(x)", x}, {"((x))", x}, {"x # + y", x}, {"-x", over(neg, x)}, {"--x", over(neg, over(neg, x))}, {"-(x)", over(neg, x)}, {"-1", over(neg, termWith(numberNode("1")))},
		{"x+y", over(add, x, y)}, {"x-y", over(sub, x, y)}, {"x*y", over(mul, x, y)}, {"x/y", over(div, x, y)}, {"x - -y", over(sub, x, over(neg, y))}, {"x*-y", over(mul, x, over(neg, y))}, {"-x*y", over(mul, over(neg, x), y)}, {"-x+y", over(add, over(neg, x), y)},
		{"x-y-z", over(sub, over(sub, x, y), z)}, {"x-(y-z)", over(sub, x, over(sub, y, z))}, {"x/y/z", over(div, over(div, x, y), z)}, {"x/(y*z)", over(div, x, over(mul, y, z))}, {"x+y*z", over(add, x, over(mul, y, z))}, {"x*y+z", over(add, over(mul, x, y), z)}, {"x*(y+z)", over(mul, x, over(add, y, z))},
		{"x^2", over(powNode(2), x)}, {"-x^2", over(neg, over(powNode(2), x))}, {"(-x)^2", over(powNode(2), over(neg, x))}, {"x*y^0", over(mul, x, over(powNode(0), y))}, {"(x*y)^8", over(powNode(8), over(mul, x, y))}, {"(x^2)^3", over(powNode(3), over(powNode(2), x))}, {"2^3", over(powNode(3), termWith(numberNode("2")))}, {"x^2*y", over(mul, over(powNode(2), x), y)},
		{"sqrt(x)", over(bareNode(impl.TermRoot), x)}, {"abs(x-y)", over(bareNode(impl.TermAbs), over(sub, x, y))}, {"min(x,y)", over(bareNode(impl.TermMin), x, y)}, {"max(x,y+z)", over(bareNode(impl.TermMax), x, over(add, y, z))}, {"sqrt(x)^2", over(powNode(2), over(bareNode(impl.TermRoot), x))},
		{"f(x)", over(callNode("f", 1), x)}, {"f(x,y,z)", over(callNode("f", 3), x, y, z)}, {"f (x)", over(callNode("f", 1), x)}, {"f((x))", over(callNode("f", 1), x)}, {"f(x)^1", over(powNode(1), over(callNode("f", 1), x))}, {"-f(-x)", over(neg, over(callNode("f", 1), over(neg, x)))}, {"x(x)", over(callNode("x", 1), x)}, {"f(g(x),y)", over(callNode("f", 2), over(callNode("g", 1), x), y)},
	} {
		if got, code := impl.TermRead(row.line); code != 0 || !sameTerm(got, row.want) {
			t.Errorf("TermRead %q: %v, code %d, not %v", row.line, got, code, row.want)
		}
		checkTermRead(t, row.line)
	}
}

func TestTokensThatAreNoSum(t *testing.T) {
	for _, line := range []string{
		"", " ", "#", "# x", "+", "-", "*", "/", "^", "(", ")", ",", "=", "<=", "x +", "x -", "- ", "+ x", "x + + y", "x * * y", "* x", "x * / y", "x y", "1 2", "x 1", "2 x", "x (", "x )", "( x", "((x)", "(x))", "()", "( )", "(x,y)", "(,)", "x,y", "x = y", "x <= y", "x >= y", "= x",
		"x^", "^2", "x^9", "x^10", "x^y", "x^-1", "x^(2)", "x^2.0", "x^1e0", "x^2^3", "x^2 3", "x^+2", "-^2", "x^min", "x^=", "x^/", "x^(", "x^,",
		"f(", "f()", "f( )", "f(,)", "f(x", "f(x,", "f(x,)", "f(,x)", "f(x y)", "f(x)(y)", "f(x)x", "f(x)1", "f x", "1(x)", "(f)(x)", "f(x=y)", "f((x,y))", "f(x+)",
		"sqrt", "abs", "min", "max", "def", "var", "sqrt x", "sqrt()", "sqrt(x,y)", "abs(x,y)", "abs()", "min()", "min(x)", "min(x,)", "min(,x)", "min(x,y,z)", "max(x)", "max(x,y,z)", "min(x,y", "min x,y", "def x", "var x", "def(x)", "var(x)", "def(x,y)", "x + var", "sqrt + x", "sqrt^2", "min^2", "x + sqrt", "-sqrt", "f(min)", "def f(x) = x", "min(x,y,z,x,y,z,x)",
	} {
		checkReadCode(t, line, impl.LangBadForm)
	}
}

// All rows of a few tokens, with blanks between.
func TestShortRowsOfTokens(t *testing.T) {
	t.Parallel()
	alphabet := []string{"x", "2", "9", "-", "+", "*", "^", "(", ")", ",", "sqrt", "min"}
	lines := []string{""}
	for from, count := 0, 1; count <= 5; count++ {
		until := len(lines)
		for ; from < until; from++ {
			for _, text := range alphabet {
				lines = append(lines, lines[from]+" "+text)
			}
		}
	}
	sums := 0
	for _, line := range lines {
		checkTermRead(t, line)
		if _, code := impl.TermRead(line); code == 0 {
			sums++
		}
	}
	if sums < 500 {
		t.Errorf("only %d sums", sums)
	}
}

// Tokens of terms, some left out, put in, changed or turned round.
func TestRowsOfTokensNearTerms(t *testing.T) {
	t.Parallel()
	s := spread{121}
	alphabet := append(allSigns(), "x", "f", "2", "9", "2.5", "sqrt", "abs", "min", "max", "def", "var")
	for _, term := range someTerms(122, 4000) {
		grown, _ := branchOf(term)
		tokens, _ := cutLine(grown.text())
		texts := textsOf(tokens)
		for range 1 + s.next()%2 {
			at := int(s.next() % uint64(len(texts)+1))
			switch end := min(at+1, len(texts)); s.next() % 4 {
			case 0:
				texts = slices.Insert(texts, at, pick(&s, alphabet))
			case 1:
				texts = slices.Delete(texts, at, end)
			case 2:
				texts = slices.Replace(texts, at, end, pick(&s, alphabet))
			case 3:
				slices.Reverse(texts[max(at-1, 0):end])
			}
		}
		checkTermRead(t, strings.Join(texts, " "))
	}
}

// Terms with needless ( ) and blanks are read as those without.
func TestTermsWithNeedlessBrackets(t *testing.T) {
	t.Parallel()
	s := spread{123}
	read := 0
	for _, term := range someTerms(124, 4000) {
		grown, _ := branchOf(term)
		line := inBrackets(&s, grown)
		if !inLimits(line) {
			checkTermRead(t, line)
			continue
		}
		read++
		if got, code := impl.TermRead(line); code != 0 || !sameTerm(got, term) {
			t.Errorf("TermRead %q: %v, code %d, not %v", line, got, code, term)
		}
	}
	if read < 3000 {
		t.Errorf("only %d terms", read)
	}
}

func TestCallsOfManyArguments(t *testing.T) {
	for count := 1; count <= 20; count++ {
		want := 0
		if count > 6 {
			want = impl.LangTooMany
		}
		list := strings.Repeat("x,", count-1) + "1"
		for _, line := range []string{"f(" + list + ")", "-f(" + list + ")^2 + x", "sqrt(f(" + list + "))", "g(1, f(" + list + "))", "f(f(" + list + "))", "(f(" + list + "))"} {
			checkReadCode(t, line, want)
		}
		// What is no sum is told ahead of what is too many.
		for _, line := range []string{"f(" + list + ",)", "f(" + list, "f(" + list + ") +", "f(" + list + ") x", "+ f(" + list + ")", "f(" + list + ") + sqrt", "min(f(" + list + "))"} {
			checkReadCode(t, line, impl.LangBadForm)
		}
		if count != 2 {
			checkReadCode(t, "min("+list+")", impl.LangBadForm)
		}
		if count != 1 {
			checkReadCode(t, "sqrt("+list+")", impl.LangBadForm)
		}
	}
}

// Terms of TermMaxNodes nodes are read, those of one more are not, deep to the left, to the right and in signs.
func TestTermsOfMostNodesAreRead(t *testing.T) {
	for count := 95; count <= 105; count++ {
		want := 0
		if count > 100 {
			want = impl.LangTooMany
		}
		lines := []string{strings.Repeat("-", count-1) + "x"}
		if calls := 3*(count-1) + 1; calls <= 300 {
			lines = append(lines, strings.Repeat("f(", count-1)+"x"+strings.Repeat(")", count-1))
		}
		// An even number of nodes has a sign ahead.
		sign, joints := "", (count-1)/2
		if count%2 == 0 {
			sign = "-"
		}
		lines = append(lines, sign+"x"+strings.Repeat("-x", joints), sign+"x"+strings.Repeat("+x", joints), sign+"x"+strings.Repeat("/x", joints), strings.Repeat("x-(", joints)+sign+"x"+strings.Repeat(")", joints), strings.Repeat("x/(", joints)+sign+"x"+strings.Repeat(")", joints))
		lines = append(lines, strings.Repeat("(", joints)+sign+"x"+strings.Repeat("*y)", joints))
		for _, line := range lines {
			checkReadCode(t, line, want)
			checkReadCode(t, line+" # x", want)
			checkReadCode(t, "("+line+")", codeWithin(want, "("+line+")"))
			checkReadCode(t, line+"+", codeWithin(impl.LangBadForm, line+"+"))
			checkReadCode(t, line+"{", impl.LangBadByte)
			checkReadCode(t, line+" 2x", impl.LangBadNumber)
		}
	}
}

// codeWithin is a code, if the line can be cut.
func codeWithin(code int, line string) int {
	if _, cut := cutLine(line); cut != 0 {
		return cut
	}
	return code
}

// The codes of lines come ahead of those of terms.
func TestCodesOfTermsInOrder(t *testing.T) {
	many := strings.Repeat("-", 300)
	for _, row := range []struct {
		line string
		code int
	}{
		{many + "x", impl.LangTooMany}, {many + "+", impl.LangTooMany}, {many, impl.LangBadForm}, {many[1:] + "x", impl.LangTooMany}, {many[1:] + "+", impl.LangBadForm}, {strings.Repeat("(", 300), impl.LangBadForm}, {strings.Repeat("(", 301), impl.LangTooMany}, {strings.Repeat("x ", 300), impl.LangBadForm}, {strings.Repeat("x ", 301), impl.LangTooMany},
		{strings.Repeat("(", 149) + "x" + strings.Repeat(")", 149), 0}, {strings.Repeat("(", 149) + "-x" + strings.Repeat(")", 150), impl.LangTooMany}, {strings.Repeat("(", 149) + "-x" + strings.Repeat(")", 149), 0}, {strings.Repeat("(", 150) + "x" + strings.Repeat(")", 149), impl.LangBadForm},
		{"x +" + strings.Repeat(" ", 998), impl.LangTooLong}, {"x +" + strings.Repeat(" ", 997), impl.LangBadForm}, {"x" + strings.Repeat(" ", 999), 0}, {"x" + strings.Repeat(" ", 1000), impl.LangTooLong},
		{"x + {", impl.LangBadByte}, {"x + 2x", impl.LangBadNumber}, {"2x + {", impl.LangBadByte}, {"+ {", impl.LangBadByte}, {"+ 2x", impl.LangBadNumber}, {"x.5", impl.LangBadByte}, {"x < y", impl.LangBadByte}, {"abcdefghi", impl.LangBadByte}, {"x\n", impl.LangBadByte}, {"x\n+ y", impl.LangBadByte}, {"\tx", impl.LangBadByte}, {"x\x00", impl.LangBadByte}, {"x + \xff", impl.LangBadByte}, {"x # \xff", 0}, {"é", impl.LangBadByte},
		{"f(1,2,3,4,5,6,7) {", impl.LangBadByte}, {"f(1,2,3,4,5,6,7) 2x", impl.LangBadNumber}, {"f(1,2,3,4,5,6,7) +", impl.LangBadForm}, {"+ f(1,2,3,4,5,6,7)", impl.LangBadForm}, {"f(1,2,3,4,5,6,7", impl.LangBadForm}, {"f(1,2,3,4,5,6,7)", impl.LangTooMany},
	} {
		checkReadCode(t, row.line, row.code)
	}
	if _, code := impl.TermRead(strings.Repeat("x + ", 1000000)); code != impl.LangTooLong {
		t.Errorf("a very long line: code %d", code)
	}
}
