package tests

import (
	"slices"
	"strings"
	"testing"

	"loop.example/pinfold/impl"
)

func TestConstantsOfProblems(t *testing.T) {
	codes := []int{impl.LangTooLong, impl.LangBadByte, impl.LangBadNumber, impl.LangBadForm, impl.LangTooMany, impl.LangAgain, impl.LangHidden, impl.LangNoName, impl.LangBadArgs, impl.LangLoop, impl.LangNothing}
	for at, code := range codes {
		if code != at+1 {
			t.Errorf("code %d: %d", at+1, code)
		}
	}
	got := []int{impl.ProgLess, impl.ProgMore, impl.ProgEqual, impl.ProgMaxDefs, impl.ProgMaxVars, impl.ProgMaxRels, impl.LangMaxText, impl.LangMaxLine}
	if !slices.Equal(got, []int{1, 2, 3, 12, 6, 12, 8000, 1000}) {
		t.Errorf("kinds and limits: %v", got)
	}
}

func TestProblemsAreRead(t *testing.T) {
	x, y, a, b := nameOnly("x"), nameOnly("y"), nameOnly("a"), nameOnly("b")
	one := termWith(numberNode("1"))
	want := impl.Prog{
		Defs: []impl.ProgDef{
			{Name: "f", Params: []string{"a", "b"}, Body: over(bareNode(impl.TermAdd), over(callNode("sq", 1), a), over(bareNode(impl.TermMul), b, nameOnly("c")))},
			{Name: "c", Body: one},
			{Name: "sq", Params: []string{"a"}, Body: over(powNode(2), a)},
		},
		Vars: []string{"y", "x"},
		Rels: []impl.ProgRel{
			{Kind: impl.ProgLess, Left: over(callNode("f", 2), x, y), Right: nameOnly("c")},
			{Kind: impl.ProgMore, Left: x, Right: over(bareNode(impl.TermNeg), one)},
			{Kind: impl.ProgEqual, Left: y, Right: over(bareNode(impl.TermMin), x, one)},
		},
	}
	for _, text := range []string{
		"def f(a, b) = sq(a) + b * c\ndef c = 1\ndef sq(a) = a^2\nvar y\nvar x\nf(x, y) <= c\nx >= -1\ny = min(x, 1)\n",
		"def f(a,b)=sq(a)+b*c\ndef c=1\ndef sq(a)=a^2\nvar y\nvar x\nf(x,y)<=c\nx>=-1\ny=min(x,1)",
		"f(x,y) <= c # first\n\nvar y\n def f ( a , b ) = ( sq(a) ) + (b*c)\n#\ndef c = (1)\nx>=-1\nvar   x # second\ny=min((x),1)\n\ndef sq(a)=((a)^2)\n\n",
	} {
		checkFault(t, text, 0, 0)
		if got := mustProg(t, text); !sameProg(got, want) || impl.ProgCode(got) != 0 {
			t.Errorf("ProgRead %q: %v, not %v", text, got, want)
		}
	}
	checkCode(t, want, 0)
}

// permuted calls a function with all orders of a list.
func permuted(lines []string, from int, do func([]string)) {
	if from == len(lines) {
		do(lines)
		return
	}
	for at := from; at < len(lines); at++ {
		lines[from], lines[at] = lines[at], lines[from]
		permuted(lines, from+1, do)
		lines[from], lines[at] = lines[at], lines[from]
	}
}

// Lines may stand in any order; each kind of them keeps its own.
func TestLinesInAnyOrder(t *testing.T) {
	lines := []string{"def f(a) = a + c", "def c = 2", "var x", "var y", "f(x) = c", "y >= f(c)"}
	orders := 0
	permuted(lines, 0, func(order []string) {
		orders++
		sorted := slices.Clone(order)
		kinds := map[string]int{"def ": 1, "var ": 2}
		slices.SortStableFunc(sorted, func(a string, b string) int {
			// What is neither is a relation, behind both.
			return (kinds[a[:4]]+2)%3 - (kinds[b[:4]]+2)%3
		})
		p, fault := impl.ProgRead(strings.Join(order, "\n"))
		if text := impl.ProgText(p); fault != (impl.LangFault{}) || text != strings.Join(sorted, "\n")+"\n" {
			t.Errorf("%q: %q, %v", order, text, fault)
		}
	})
	if orders != 720 {
		t.Errorf("%d orders", orders)
	}
}

// Each way in which def can be said, and ways in which it can't.
func TestLinesOfDefinitions(t *testing.T) {
	const behind = "\nvar x\nx = 1"
	for _, line := range []string{
		"def f = 1", "def f=1", "def f(a) = 1", "def f(a)=a", "def f ( a ) = a", "def f(a,b) = a", "def f(a, b, c, d, e, g) = g", "def f(x) = x", "def f(a) = (a)", "def f = -1", "def f1(a1) = a1", "def abcdefgh(bcdefghi) = 1",
	} {
		checkFault(t, line+behind, 0, 0)
		checkFault(t, line+" # = {"+behind, 0, 0)
	}
	checkFault(t, "def abcdefghi = 1"+behind, 1, impl.LangBadByte)
	checkFault(t, "def f(abcdefghi) = 1"+behind, 1, impl.LangBadByte)
	checkFault(t, "def f(2x) = 1"+behind, 1, impl.LangBadNumber)
	for _, line := range []string{
		"def", "def f", "def =", "def = 1", "def f =", "def f 1", "def f 1 =", "def f f = 1", "def f = = 1", "def f = 1 = 1", "def f = 1 <= 1", "def f <= 1", "def f >= 1", "def f(a) <= 1", "def f(a) >= a = a", "def f = 1 1", "def f + = 1", "def f + 1 = 1", "def (f) = 1", "def f^2 = 1", "def -f = 1", "def f, g = 1", "def f def = 1", "def def f = 1", "def var f = 1", "def f = def", "def f = var", "def f = var x", "def f = min", "def f =  # 1", "def # f = 1", "def f # = 1",
		"def f() = 1", "def f( = 1", "def f) = 1", "def f(a = 1", "def f(a, = 1", "def f(a b = 1", "def f(a( = 1", "def f(a, b, = 1", "def f(a 1 = 1", "def f(a + = 1", "def f a) = 1", "def f(a,) = 1", "def f(,a) = 1", "def f(,) = 1", "def f(a,,b) = 1", "def f(a b) = 1", "def f(a, b = 1", "def f(a,b)) = 1", "def f((a)) = 1", "def f(a)(b) = 1", "def f(a) b = 1", "def f(a)", "def f(a) =", "def f(a) 1", "def (a) = 1", "def f(a+b) = 1", "def f(g(a)) = 1", "def f(-a) = 1", "def f a = 1", "def f(a,(b)) = 1", "def f(a,1) = 1", "def f(1) = 1", "def f(+) = 1", "def f(=) = 1", "def f(a=1) = 1",
	} {
		checkFault(t, line+behind, 1, impl.LangBadForm)
		checkFault(t, "var x\n\nx = 1\n"+line, 4, impl.LangBadForm)
	}
	for _, word := range append(append(wordsOfTheLanguage(), allSigns()...), "0", "1", "2.5e-3") {
		for _, line := range []string{"def " + word + " = 1", "def " + word + "(a) = 1", "def f(" + word + ") = 1", "def f(a, " + word + ") = 1", "def f(" + word + ", a) = 1", "def f(a, " + word + ", b) = 1", "def f(a) " + word + " 1 = 1"} {
			if line == "def f(a) = 1 = 1" {
				continue
			}
			checkFault(t, line+behind, 1, impl.LangBadForm)
		}
	}
}

func TestLinesOfVariables(t *testing.T) {
	for _, name := range someNames() {
		checkFault(t, "var "+name+"\n"+name+" = 1", 0, 0)
		checkFault(t, " var  "+name+" #\n"+name+" = 1", 0, 0)
	}
	for _, line := range []string{"var", "var x y", "var x, y", "var x = 1", "var x var y", "var x x", "var (x)", "var x(a)", "var (", "var -x", "var # x", "var var", "var def x", "var var x", "var x def", "var x 1", "var x +", "var = 1", "var <= x", "var x <= 1"} {
		checkFault(t, line, 1, impl.LangBadForm)
		checkFault(t, "var z\nz = 1\n"+line+"\n", 3, impl.LangBadForm)
	}
	for _, word := range append(append(wordsOfTheLanguage(), allSigns()...), "0", "1", "2.5e-3") {
		checkFault(t, "var "+word+"\nvar z\nz = 1", 1, impl.LangBadForm)
	}
	checkFault(t, "var 2x", 1, impl.LangBadNumber)
	checkFault(t, "var X", 1, impl.LangBadByte)
	checkFault(t, "var abcdefghi", 1, impl.LangBadByte)
	checkFault(t, "var x.y", 1, impl.LangBadByte)
	checkFault(t, "varx\nvar x", 1, impl.LangBadForm)
	checkFault(t, "varx = 1\nvar varx", 0, 0)
	checkFault(t, "defx = 1\nvar defx", 0, 0)
	checkFault(t, "var(x) = 1\nvar x", 1, impl.LangBadForm)
	checkFault(t, "def(x) = 1\nvar x", 1, impl.LangBadForm)
}

// A relation is cut at the first of the three signs.
func TestLinesOfRelations(t *testing.T) {
	signs := []string{"<=", ">=", "="}
	for at, sign := range signs {
		text := "var x\nx^2 - 1 " + sign + " -x"
		checkFault(t, text, 0, 0)
		if p := mustProg(t, text); p.Rels[0].Kind != at+1 || impl.TermText(p.Rels[0].Left) != "x^2 - 1" || impl.TermText(p.Rels[0].Right) != "-x" {
			t.Errorf("%q: %v", text, p)
		}
		for _, line := range []string{sign, "x " + sign, sign + " x", "x x " + sign + " x", "x " + sign + " x x", "(x " + sign + " x)", "(x) " + sign + " x)", "x + " + sign + " x", "x " + sign + " + x", "x " + sign + " sqrt", "min " + sign + " x", "x " + sign + " var", "x " + sign + " var x", "x " + sign + " def x", "1 var " + sign + " x", "f(x " + sign + " x)", "x^" + sign + "2", "x , x " + sign + " x", "x " + sign + " # x"} {
			checkFault(t, "var x\n"+line, 2, impl.LangBadForm)
			checkFault(t, line+"\nvar x", 1, impl.LangBadForm)
		}
		for _, second := range signs {
			for _, line := range []string{"x " + sign + " x " + second + " x", "x " + sign + " " + second + " x", sign + " x " + second + " x", "x " + sign + " x " + second, sign + " " + second} {
				checkFault(t, "var x\n"+line, 2, impl.LangBadForm)
			}
		}
	}
	for _, line := range []string{"x", "x + 1", "1", "-x", "f(x)", "sqrt(x)", "(", ")", "+", ",", "x x", "x 1", "min", "x # = 1"} {
		checkFault(t, "var x\n"+line, 2, impl.LangBadForm)
		checkFault(t, "var x\n"+line+"\nx = 1", 2, impl.LangBadForm)
	}
	checkFault(t, "var x\nx < 1", 2, impl.LangBadByte)
	checkFault(t, "var x\nx < = 1", 2, impl.LangBadByte)
	checkFault(t, "var x\nx == 1", 2, impl.LangBadForm)
	checkFault(t, "var x\nx =< 1", 2, impl.LangBadByte)
	checkFault(t, "var x\nx => 1", 2, impl.LangBadByte)
	checkFault(t, "var x\nx<=-1", 0, 0)
	checkFault(t, "var x\n1 = 1", 0, 0)
}

// A text is cut at line feeds alone, and a last piece that is empty is no line.
func TestLinesOfTexts(t *testing.T) {
	good := []string{"var x", "x = 1"}
	for _, text := range []string{"var x\nx = 1", "var x\nx = 1\n", "var x\nx = 1\n\n", "\n\nvar x\n\n\nx = 1\n\n\n", "#\nvar x#\n#\nx = 1#\n#", " \n  var x  \n \n  x = 1  \n  "} {
		checkFault(t, text, 0, 0)
		if got := impl.ProgText(mustProg(t, text)); got != strings.Join(good, "\n")+"\n" {
			t.Errorf("%q: %q", text, got)
		}
	}
	for _, text := range []string{"", "\n", "\n\n", " ", "#", "# x\n#", "\n \n#\n"} {
		checkFault(t, text, 0, impl.LangNothing)
	}
	for _, end := range []string{"\r", "\t", "\v", "\f", "\x00", "\x85", "\u2028", "\u00a0"} {
		checkFault(t, "var x"+end+"\nx = 1\n", 1, impl.LangBadByte)
		checkFault(t, "var x\nx = 1\n"+end, 3, impl.LangBadByte)
		checkFault(t, "var x\nx = 1\n"+end+"\n", 3, impl.LangBadByte)
		checkFault(t, "var x # "+end+"\nx = 1\n", 0, 0)
	}
	// A sign, a number or a term does not go on over the end of a line.
	checkFault(t, "var x\nx <\n= 1", 2, impl.LangBadByte)
	checkFault(t, "var x\nx =\n1", 2, impl.LangBadForm)
	checkFault(t, "var\nx", 1, impl.LangBadForm)
	checkFault(t, "def f\n= 1", 1, impl.LangBadForm)
}

// Texts near problems, with faults of all kinds.
func TestTextsNearProblems(t *testing.T) {
	t.Parallel()
	s := spread{161}
	counts := map[int]int{}
	for range 4000 {
		_, fault := checkProg(t, someText(&s))
		counts[fault.Code]++
	}
	for code := range 12 {
		if counts[code] < 20 {
			t.Errorf("code %d: only %d texts", code, counts[code])
		}
	}
}

// Lines of tokens of whatever kind.
func TestLinesOfAnyTokens(t *testing.T) {
	t.Parallel()
	s := spread{162}
	alphabet := []string{"def", "def", "var", "f", "x", "a", "1", "(", ")", ",", "=", "=", "<=", "-", "min"}
	for range 6000 {
		var texts []string
		for range 1 + s.next()%9 {
			texts = append(texts, pick(&s, alphabet))
		}
		checkProg(t, strings.Join(texts, " ")+"\nvar z\nz = 1")
	}
	for range 1000 {
		checkProg(t, someLine(&s, int(s.next()%12), true)+"\n"+someLine(&s, int(s.next()%12), false))
	}
}
