package tests

import (
	"strconv"
	"strings"
	"testing"

	"loop.example/pinfold/impl"
)

type faultCase struct {
	text string
	line int
	code int
}

func checkFaults(t *testing.T, cases []faultCase) {
	t.Helper()
	for _, row := range cases {
		checkFault(t, row.text, row.line, row.code)
	}
}

// A parameter may not have the name of a definition, wherever that stands.
func TestParametersThatHide(t *testing.T) {
	const rest = "\nvar x\nx = 1"
	checkFaults(t, []faultCase{
		{"def g = 1\ndef f(g) = g" + rest, 2, impl.LangHidden}, {"def f(g) = g\ndef g = 1" + rest, 1, impl.LangHidden}, {"def f(f) = 1" + rest, 1, impl.LangHidden}, {"def f(f) = f" + rest, 1, impl.LangHidden}, {"def f(g) = 1\ndef g(a) = 1" + rest, 1, impl.LangHidden}, {"def f(a, b, g) = 1\nvar y\ndef g = 1" + rest, 1, impl.LangHidden}, {"def f(g, b, a) = 1\ndef g = 1" + rest, 1, impl.LangHidden}, {"def f(a, g, b) = 1" + rest + "\ndef g = 1", 1, impl.LangHidden},
		{"def f(x) = x" + rest, 0, 0}, {"def f(a) = a\ndef g(a) = a" + rest, 0, 0}, {"def f(gg) = gg\ndef g = 1" + rest, 0, 0}, {"def f(g) = g\nvar g\ng = 1", 0, 0}, {"def f(g) = g(1)\nvar g\ng = 1", 1, impl.LangBadArgs},
		// Two that hide each other: the first line is told.
		{"def f(g) = 1\ndef g(f) = 1" + rest, 1, impl.LangHidden}, {"def f(a) = 1\ndef g(f) = 1" + rest, 2, impl.LangHidden},
	})
}

// In a body stand parameters and definitions, not variables; in a relation variables and definitions, not parameters.
func TestNamesThatAreNotThere(t *testing.T) {
	const rest = "\nvar x\nx = 1"
	checkFaults(t, []faultCase{
		{"def f = x" + rest, 1, impl.LangNoName}, {"var x\nx = 1\ndef f = x", 3, impl.LangNoName}, {"def f(a) = a + x" + rest, 1, impl.LangNoName}, {"def f(a) = x(1)" + rest, 1, impl.LangNoName}, {"def f(a) = b" + rest, 1, impl.LangNoName}, {"def f(a) = a\ndef g(b) = a" + rest, 2, impl.LangNoName}, {"def f(a) = g(a)" + rest, 1, impl.LangNoName}, {"def f = g" + rest, 1, impl.LangNoName}, {"def f = nope(1)" + rest, 1, impl.LangNoName},
		{"var x\nx = a\ndef f(a) = a", 2, impl.LangNoName}, {"var x\na = x\ndef f(a) = a", 2, impl.LangNoName}, {"var x\nx = nope", 2, impl.LangNoName}, {"var x\nnope(x) = 1", 2, impl.LangNoName}, {"var x\nx = nope(1)", 2, impl.LangNoName}, {"var x\nx = xx", 2, impl.LangNoName}, {"var xx\nx = xx", 2, impl.LangNoName}, {"var x\nsqrt(abs(min(1, -y^2))) = 1", 2, impl.LangNoName},
		{"def f(x) = x" + rest, 0, 0}, {"def f(a) = a\ndef g = f(2)\nvar x\nx = f(g)", 0, 0}, {"def g = f(2)\nx = f(g)\nvar x\ndef f(a) = a", 0, 0},
	})
}

// What is called must be a definition with as many parameters; what is named one without.
func TestArgumentsThatDoNotFit(t *testing.T) {
	const rest = "\nvar x\nx = 1"
	checkFaults(t, []faultCase{
		{"def f(a) = a(1)" + rest, 1, impl.LangBadArgs}, {"def f(a, b) = b(a)" + rest, 1, impl.LangBadArgs}, {"var x\nx(1) = 1", 2, impl.LangBadArgs}, {"var x\n1 = x(1, 2)", 2, impl.LangBadArgs}, {"var x\nx(x) = x", 2, impl.LangBadArgs},
		{"def c = 1\ndef f = c(1)" + rest, 2, impl.LangBadArgs}, {"def c = 1\nvar x\nx = c(1)", 3, impl.LangBadArgs}, {"def f(a) = a\ndef g = f" + rest, 2, impl.LangBadArgs}, {"def f(a) = a\nvar x\nx = f", 3, impl.LangBadArgs}, {"var x\nf = x\ndef f(a) = a", 2, impl.LangBadArgs},
		{"def f(a) = f" + rest, 1, impl.LangBadArgs}, {"def f = f(1)" + rest, 1, impl.LangBadArgs}, {"def f(a) = f(a, a)" + rest, 1, impl.LangBadArgs},
	})
	for params := range 7 {
		for arguments := range 7 {
			head, call := "def f", "f"
			if params > 0 {
				head += "(" + strings.Join(numbered("a", params), ", ") + ")"
			}
			if arguments > 0 {
				call += "(" + strings.Join(strings.Split(strings.Repeat("1", arguments), ""), ", ") + ")"
			}
			line, code := 0, 0
			if params != arguments {
				line, code = 3, impl.LangBadArgs
			}
			checkFault(t, head+" = 1\nvar x\nx = "+call, line, code)
			checkFault(t, head+" = 1\nvar x\n-("+call+")^2 >= x", line, code)
			checkFault(t, head+" = 1\n\ndef g = "+call+rest, line, code)
			checkFault(t, "var x\nx = 1\ndef g(a) = min(a, "+call+")\n"+head+" = 2", line, code)
		}
	}
}

// The line of the first definition that uses itself, by its body or by others' bodies; not of one that only uses such ones.
func TestDefinitionsThatUseThemselves(t *testing.T) {
	const rest = "\nvar x\nx = 1"
	checkFaults(t, []faultCase{
		{"def f = f" + rest, 1, impl.LangLoop}, {"def f(a) = f(a)" + rest, 1, impl.LangLoop}, {"def f(a) = 1 + f(2) * a" + rest, 1, impl.LangLoop}, {"var x\nx = 1\n\ndef f = -f", 4, impl.LangLoop}, {"var x\nx = f\ndef f = f", 3, impl.LangLoop},
		{"def f = g\ndef g = f" + rest, 1, impl.LangLoop}, {"def f(a) = g(a)\ndef g(a) = f(a)" + rest, 1, impl.LangLoop}, {"def f = g(1)\ndef g(a) = a + f" + rest, 1, impl.LangLoop}, {"def f = g\ndef g = h\ndef h = f" + rest, 1, impl.LangLoop}, {"def f = g\ndef g = h\ndef h = g" + rest, 2, impl.LangLoop}, {"def f = g\ndef g = g" + rest, 2, impl.LangLoop}, {"def f = g\ndef g = h\ndef h = h" + rest, 3, impl.LangLoop}, {"def h = h\ndef f = g\ndef g = h" + rest, 1, impl.LangLoop},
		{"def c = 1\ndef u = f\ndef w(a) = u + a\n\ndef f = c + g\ndef g = f" + rest, 5, impl.LangLoop}, {"def a1 = b1 + c1\ndef b1 = c1\ndef c1 = d1\ndef d1 = b1" + rest, 2, impl.LangLoop}, {"def f = g\ndef g = f\ndef h = h" + rest, 1, impl.LangLoop}, {"def h = h\ndef f = g\ndef g = f" + rest, 1, impl.LangLoop}, {"def f(a) = f(f(a))" + rest, 1, impl.LangLoop}, {"def c = 1\ndef f(a) = a(1)\ndef g = g" + rest, 2, impl.LangBadArgs},
		// One that is used twice, by two ways, is no loop.
		{"def f = g + h\ndef g = k\ndef h = k\ndef k = 1" + rest, 0, 0}, {"def k = 1\ndef g = k + k\ndef f = g + k + g" + rest, 0, 0}, {"def f(a) = g(g(a))\ndef g(a) = a" + rest, 0, 0},
	})
	// Rings of all sizes, with one ahead that uses them.
	for size := 1; size <= 11; size++ {
		text := "def u = d0\n"
		for at := range size {
			text += "def d" + strconv.Itoa(at) + " = d" + strconv.Itoa((at+1)%size) + "\n"
		}
		checkFault(t, text+rest, 2, impl.LangLoop)
		// Without what closes it the ring is a row.
		open := strings.Replace(text, "def d"+strconv.Itoa(size-1)+" = d0", "def d"+strconv.Itoa(size-1)+" = 1", 1)
		checkFault(t, open+rest, 0, 0)
	}
}
