package tests

import (
	"strings"
	"testing"

	"loop.example/pinfold/impl"
)

// padded is a text with silent lines behind it, so that it has just so many bytes.
func padded(text string, size int) string {
	for len(text)+1000 <= size {
		text += "#" + strings.Repeat("x", 998) + "\n"
	}
	return text + strings.Repeat(" ", size-len(text))
}

func TestTextsOfMostBytes(t *testing.T) {
	const good = "var x\nx = 1\n"
	for _, size := range []int{7000, 7999, 8000} {
		checkFault(t, padded(good, size), 0, 0)
		checkFault(t, padded("var x\n", size), 0, impl.LangNothing)
		checkFault(t, padded("var x\nx = \n", size), 2, impl.LangBadForm)
		checkFault(t, padded("var x\nx = y\n", size), 2, impl.LangNoName)
		checkFault(t, strings.Repeat("\n", size-len(good))+good, 0, 0)
	}
	for _, size := range []int{8001, 8002, 9000, 100000} {
		for _, text := range []string{good, "", "var x\n", "var x\nx = \n", "x = y\n", "{\n", "def f = f\n", "x = 01\n"} {
			checkFault(t, padded(text, size), 0, impl.LangTooLong)
		}
		checkFault(t, strings.Repeat("x", size), 0, impl.LangTooLong)
		checkFault(t, strings.Repeat("\n", size), 0, impl.LangTooLong)
	}
	checkFault(t, strings.Repeat("\n", 8000), 0, impl.LangNothing)
}

// A line of LangMaxLine bytes is one, without its line feed; one more is too long, even if it says nothing.
func TestProblemsWithLongLines(t *testing.T) {
	for _, line := range []string{"var x", "y = 2", "def f = 1", "", "#"} {
		text := "var y\ny = 1\n" + line + strings.Repeat(" ", 1000-len(line))
		checkFault(t, text, 0, 0)
		checkFault(t, text+"\n", 0, 0)
		checkFault(t, text+"\n\n", 0, 0)
		checkFault(t, text+" ", 3, impl.LangTooLong)
		checkFault(t, text+" \n", 3, impl.LangTooLong)
		checkFault(t, text+" \n{", 3, impl.LangTooLong)
	}
}

func TestProblemsWithLongTerms(t *testing.T) {
	minus := func(count int) string { return strings.Repeat("-", count-1) + "1" }
	for count := 98; count <= 102; count++ {
		line, code := 0, 0
		if count > 100 {
			line, code = 1, impl.LangTooMany
		}
		checkFault(t, "def f = "+minus(count)+"\nvar x\nx = 1", line, code)
		checkFault(t, minus(count)+" = 1\nvar x", line, code)
		checkFault(t, "1 = "+minus(count)+"\nvar x", line, code)
		checkFault(t, minus(count)+" >= "+minus(count)+"\nvar x", line, code)
	}
	// Both sides together may have more than one may.
	checkFault(t, "var x\n"+minus(100)+" <= "+minus(100), 0, 0)
	checkFault(t, "var x\n"+minus(100)+" <= "+minus(101), 2, impl.LangTooMany)
}

func TestDefinitionsOfMostParameters(t *testing.T) {
	for count := 1; count <= 9; count++ {
		line, code := 0, 0
		if count > 6 {
			line, code = 1, impl.LangTooMany
		}
		params := strings.Join(numbered("a", count), ", ")
		ones := strings.Repeat("1, ", count-1) + "1"
		checkFault(t, "def f("+params+") = a0\nvar x\nx = 1", line, code)
		checkFault(t, "f("+ones+") = 1\ndef f("+params+") = a0\nvar x", line, code)
		checkFault(t, "def g = f("+ones+")\ndef f("+params+") = a0\nvar x\nx = 1", line, code)
	}
}

// As many definitions, variables and relations as there may be, and one more, alone and all together.
func TestProblemsOfMostLines(t *testing.T) {
	for _, row := range []struct {
		most int
		line func(name string) string
		rest string
	}{
		{12, func(name string) string { return "def " + name + " = 1\n" }, "var x\nx = 1\n"},
		{6, func(name string) string { return "var " + name + "\n" }, "def f(a) = a\n1 = 1\n"},
		{12, func(name string) string { return "1 = 1 # " + name + "\n" }, "def f(a) = a\nvar x\n"},
	} {
		for count := 1; count <= row.most+3; count++ {
			text := ""
			for _, name := range numbered("n", count) {
				text += row.line(name)
			}
			line, code := 0, 0
			if count > row.most {
				line, code = row.most+1, impl.LangTooMany
			}
			checkFault(t, text+row.rest, line, code)
			if line > 0 {
				line += 2 + strings.Count(row.rest, "\n")
			}
			checkFault(t, row.rest+"\n\n"+text, line, code)
		}
	}
}
