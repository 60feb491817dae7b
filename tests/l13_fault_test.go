package tests

import (
	"strings"
	"testing"

	"loop.example/pinfold/impl"
)

// Of two faulty lines the first one's fault is told, whichever codes they have.
func TestFaultsOfLinesInEitherOrder(t *testing.T) {
	for _, first := range faultyLines() {
		checkFault(t, first.line, 1, first.code)
		checkFault(t, "var x\nx = 1\n"+first.line+"\n", 3, first.code)
		for _, second := range faultyLines() {
			checkFault(t, first.line+"\n"+second.line, 1, first.code)
			checkFault(t, "var x\n"+first.line+"\nx = 1\n"+second.line, 2, first.code)
		}
	}
}

// Names are looked at only if no line has a fault of its own, and then line by line, definitions and relations alike.
func TestFaultsOfNamesInEitherOrder(t *testing.T) {
	for _, first := range namedLines() {
		checkFault(t, first.line, 1, first.code)
		checkFault(t, "var x\nx = 1\n"+first.line+"\n", 3, first.code)
		for _, faulty := range faultyLines() {
			checkFault(t, first.line+"\n"+faulty.line, 2, faulty.code)
			checkFault(t, faulty.line+"\n"+first.line, 1, faulty.code)
			checkFault(t, "var x\nx = 1\n"+first.line+"\n\n"+faulty.line, 5, faulty.code)
		}
		for _, second := range namedLines() {
			if first.line == second.line {
				continue
			}
			checkFault(t, "var x\nx = 1\n"+first.line+"\n"+second.line, 3, first.code)
			checkFault(t, first.line+"\nvar x\nx = 1\n"+second.line, 1, first.code)
		}
	}
}

// A loop is told behind all faults of lines and names, and ahead of nothing.
func TestLoopsBesideOtherFaults(t *testing.T) {
	const loop = "def l = l"
	checkFault(t, loop, 1, impl.LangLoop)
	checkFault(t, "var x\n"+loop, 2, impl.LangLoop)
	checkFault(t, loop+"\n1 = 1", 1, impl.LangLoop)
	checkFault(t, "var x\nx = 1\n\n"+loop+"\n", 4, impl.LangLoop)
	for _, other := range append(faultyLines(), namedLines()...) {
		checkFault(t, loop+"\n"+other.line, 2, other.code)
		checkFault(t, other.line+"\n"+loop, 1, other.code)
		checkFault(t, "var x\nx = 1\n"+loop+"\n"+other.line, 4, other.code)
	}
}

// LangNothing is the last of all, and has no line.
func TestTextsWithNothing(t *testing.T) {
	for _, text := range []string{"", "var x", "var x\nvar y\n", "1 = 1", "1 = 1\n2 >= 1\n", "def f = 1", "def f = 1\nvar x", "def f(a) = a\nf(1) <= 2\n"} {
		checkFault(t, text, 0, impl.LangNothing)
		checkFault(t, "# a comment\n\n"+text, 0, impl.LangNothing)
	}
	checkFault(t, "x = 1", 1, impl.LangNoName)
	checkFault(t, "x = 1\nvar x", 0, 0)
}

// Of two codes in one line the one is told that is listed first.
func TestTwoCodesInOneLine(t *testing.T) {
	many := strings.Repeat("1+", 151) + "1"
	for _, row := range []faultyLine{
		{impl.LangTooLong, "{" + strings.Repeat(" ", 1000)}, {impl.LangTooLong, "01" + strings.Repeat(" ", 999)}, {impl.LangTooLong, "+" + strings.Repeat(" ", 1000)}, {impl.LangTooLong, "1 = " + tooManyNodes() + strings.Repeat(" ", 900)}, {impl.LangTooLong, "def f(a, a) = 1" + strings.Repeat(" ", 1000)},
		{impl.LangBadByte, "01 {"}, {impl.LangBadByte, "+ {"}, {impl.LangBadByte, many + " {"}, {impl.LangBadByte, "1 = " + tooManyNodes() + " {"}, {impl.LangBadByte, "def f(a, a) = {"}, {impl.LangBadByte, "var x {"}, {impl.LangBadByte, "def { = 1"},
		{impl.LangBadNumber, "+ 01"}, {impl.LangBadNumber, many + "+ 01"}, {impl.LangBadNumber, "01 = " + tooManyNodes()}, {impl.LangBadNumber, "def f(a, a) = 01"}, {impl.LangBadNumber, "var 01"}, {impl.LangBadNumber, "var x 01"},
		// More tokens than there may be are told with the tokens, ahead of a form that is none.
		{impl.LangTooMany, many}, {impl.LangTooMany, many + " +"}, {impl.LangTooMany, "var " + many}, {impl.LangTooMany, "def " + many},
		{impl.LangBadForm, tooManyNodes()}, {impl.LangBadForm, "+ = " + tooManyNodes()}, {impl.LangBadForm, tooManyNodes() + " = +"}, {impl.LangBadForm, tooManyNodes() + " ="}, {impl.LangBadForm, tooManyNodes() + " = 1 = 1"}, {impl.LangBadForm, "f(1,2,3,4,5,6,7) <= (1"}, {impl.LangBadForm, "(1 <= f(1,2,3,4,5,6,7)"}, {impl.LangBadForm, "f(1,2,3,4,5,6,7)"}, {impl.LangBadForm, "f(1,2,3,4,5,6,7) = min"},
		{impl.LangBadForm, "def min = " + tooManyNodes()}, {impl.LangBadForm, "def f(min) = " + tooManyNodes()}, {impl.LangBadForm, "def f( = " + tooManyNodes()}, {impl.LangBadForm, "def f() = f(1,2,3,4,5,6,7)"}, {impl.LangBadForm, "def f(a,b,c,d,e,g,h) = +"}, {impl.LangBadForm, "def f(a,b,c,d,e,g,max) = 1"}, {impl.LangBadForm, "def f(a,b,c,d,e,g,h) <= 1"}, {impl.LangBadForm, "def f(a,b,c,d,e,g,h,) = 1"}, {impl.LangBadForm, "def f <= " + tooManyNodes()},
		{impl.LangBadForm, "def f(a, a) = +"}, {impl.LangBadForm, "def f(a, a, min) = 1"}, {impl.LangBadForm, "def f(a, a)"}, {impl.LangBadForm, "def f(a, a) >= 1"},
		{impl.LangTooMany, "def f(a,b,c,d,e,g,a) = 1"}, {impl.LangTooMany, "def f(a,a,a,a,a,a,a) = 1"}, {impl.LangTooMany, "def f(a,a) = " + tooManyNodes()}, {impl.LangTooMany, "def f(a,a) = f(1,2,3,4,5,6,7)"}, {impl.LangTooMany, "f(1,2,3,4,5,6,7) = " + tooManyNodes()},
		{impl.LangAgain, "def f(f, f) = nope"}, {impl.LangAgain, "def f(a, a) = f"},
		{impl.LangHidden, "def f(f) = nope"}, {impl.LangHidden, "def f(f) = f(1, 2)"}, {impl.LangHidden, "def f(f) = f"}, {impl.LangHidden, "def f(a, f) = a(1)"},
		{impl.LangNoName, "nope = nope(1)"}, {impl.LangNoName, "def f = nope + f"}, {impl.LangNoName, "def f = f + nope"}, {impl.LangNoName, "def f(a) = nope + a(1)"}, {impl.LangNoName, "def f(a) = a(nope)"}, {impl.LangNoName, "def f(a) = f(nope, 1)"},
		{impl.LangBadArgs, "def f(a) = a(1) + nope"}, {impl.LangBadArgs, "def f(a) = f + nope"}, {impl.LangBadArgs, "def f(a) = f(1, 2)"}, {impl.LangBadArgs, "def f = f(1)"}, {impl.LangBadArgs, "def f(a) = nope2(f)"},
	} {
		checkFault(t, row.line, 1, row.code)
		checkFault(t, "# one\n"+row.line+"\n# three", 2, row.code)
	}
	// The left side comes first, and within a side what stands ahead in its nodes.
	const ahead = "var x\ndef f(a) = a\ndef c = 1\n"
	for _, row := range []faultyLine{
		{impl.LangNoName, "nope = x(1)"}, {impl.LangBadArgs, "x(1) = nope"}, {impl.LangNoName, "x(nope) = 1"}, {impl.LangBadArgs, "x(1) + nope = 1"}, {impl.LangNoName, "nope + x(1) = 1"}, {impl.LangBadArgs, "f + nope = 1"}, {impl.LangNoName, "f(nope) = f"}, {impl.LangBadArgs, "nope(f) = 1"}, {impl.LangNoName, "nope(1) = f"}, {impl.LangBadArgs, "c(1) <= nope"}, {impl.LangNoName, "c(nope) >= 1"}, {impl.LangNoName, "f(1, nope) = x(1)"},
	} {
		checkFault(t, ahead+row.line, 4, row.code)
	}
}

// A line that is one too many is so ahead of its name's being there already, and behind its form.
func TestTooManyLinesWithOtherCodes(t *testing.T) {
	defs, vars, rels := "", "", ""
	for _, name := range numbered("d", 12) {
		defs += "def " + name + " = 1\n"
		rels += "1 = " + name + "\n"
	}
	for _, name := range numbered("v", 6) {
		vars += "var " + name + "\n"
	}
	for _, row := range []struct {
		text string
		line int
		code int
	}{
		{defs + vars + rels, 0, 0}, {vars + rels + defs, 0, 0}, {rels + defs + vars, 0, 0},
		{defs + "def e = 1", 13, impl.LangTooMany}, {defs + "def d1 = 1", 13, impl.LangTooMany}, {defs + "def e(a, a) = 1", 13, impl.LangTooMany}, {defs + "def e(e) = 1", 13, impl.LangTooMany}, {defs + "def e", 13, impl.LangBadForm}, {defs + "def min = 1", 13, impl.LangBadForm}, {defs + "def e = 01", 13, impl.LangBadNumber}, {defs + "var d1", 13, impl.LangAgain}, {defs + vars + "def v1 = 1", 19, impl.LangTooMany},
		{vars + "var e", 7, impl.LangTooMany}, {vars + "var v1", 7, impl.LangTooMany}, {vars + "var", 7, impl.LangBadForm}, {vars + "var e e", 7, impl.LangBadForm}, {vars + "var {", 7, impl.LangBadByte}, {vars + "def v1 = 1", 7, impl.LangAgain}, {defs + vars + "var d1", 19, impl.LangTooMany},
		{rels + "1 = 1", 13, impl.LangTooMany}, {rels + "nope = 1", 13, impl.LangTooMany}, {rels + "1 = 1 = 1", 13, impl.LangBadForm}, {rels + "1 =", 13, impl.LangBadForm}, {rels + "1 = 01", 13, impl.LangBadNumber},
		{defs + vars + rels + "def e = 1\nvar e\n1 = 1", 31, impl.LangTooMany}, {defs + vars + rels + "\n#\nvar e\ndef e = 1\n", 33, impl.LangTooMany},
	} {
		checkFault(t, row.text, row.line, row.code)
	}
}

// A name that is there already, as a definition's or a variable's.
func TestNamesThatAreThereAlready(t *testing.T) {
	for _, row := range []struct {
		text string
		line int
		code int
	}{
		{"var x\nvar x\nx = 1", 2, impl.LangAgain}, {"def x = 1\nvar x\nx = 1", 2, impl.LangAgain}, {"var x\ndef x = 1\nx = 1", 2, impl.LangAgain}, {"var x\ndef x(a) = 1\nx = 1", 2, impl.LangAgain}, {"def x(a) = 1\nvar x\nx = 1", 2, impl.LangAgain}, {"def f = 1\ndef f = 1\nvar x\nx = 1", 2, impl.LangAgain}, {"def f = 1\ndef f(a) = 1\nvar x\nx = 1", 2, impl.LangAgain}, {"def f(a) = 1\ndef f(a, b) = 1", 2, impl.LangAgain}, {"var x\nvar y\n\n\nvar z\nx = 1\ny = 1\nvar y", 8, impl.LangAgain},
		{"def f(a, a) = 1", 1, impl.LangAgain}, {"def f(a, b, a) = 1", 1, impl.LangAgain}, {"def f(b, a, a) = 1", 1, impl.LangAgain}, {"def f(a, b, c, d, e, a) = 1", 1, impl.LangAgain}, {"def f(a, b, c, d, e, e) = 1", 1, impl.LangAgain},
		// Parameters of two definitions, and a parameter and a variable, may have one name.
		{"def f(a) = a\ndef g(a) = a\nvar a\na = f(g(a))", 0, 0}, {"var a\ndef f(a) = a\na = f(a)", 0, 0}, {"def f(aa, a) = a\nvar x\nx = f(x, x)", 0, 0},
	} {
		checkFault(t, row.text, row.line, row.code)
	}
}
