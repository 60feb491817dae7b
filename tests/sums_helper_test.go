package tests

import (
	"go/ast"
	"go/parser"
	"go/token"
	"regexp"
	"slices"
	"strconv"
	"strings"
	"testing"

	"loop.example/pinfold/impl"
)

// What is a sum is held here against regular expressions, which take the innermost ( ) away again and again, and what it is against Go's own parser, which reads the same signs in the same order.

// plainSum is a sum without ( ): x is a name, d a digit that can be a power, n another number, A an atom that was taken away.
const (
	plainSigned = `-*[xdnA](?:\^d)?`
	plainSum    = plainSigned + `(?:[-+*/]` + plainSigned + `)*`
)

var (
	innerAtom = regexp.MustCompile(`x\(` + plainSum + `(?:,` + plainSum + `)*\)|s\(` + plainSum + `\)|m\(` + plainSum + `,` + plainSum + `\)|\(` + plainSum + `\)`)
	wholeSum  = regexp.MustCompile(`\A` + plainSum + `\z`)
)

// letterOf is the letter of a token in such expressions.
func letterOf(text string) string {
	switch {
	case text == "sqrt" || text == "abs":
		return "s"
	case text == "min" || text == "max":
		return "m"
	case text == "def" || text == "var":
		return "w"
	case isName(text):
		return "x"
	case len(text) == 1 && text[0] >= '0' && text[0] <= '8':
		return "d"
	case isLiteral(text):
		return "n"
	case strings.HasSuffix(text, "="):
		return "="
	}
	return text
}

// areSum says whether tokens should be a sum.
func areSum(texts []string) bool {
	var letters strings.Builder
	for _, text := range texts {
		letters.WriteString(letterOf(text))
	}
	left := letters.String()
	for {
		less := innerAtom.ReplaceAllString(left, "A")
		if less == left {
			return wholeSum.MatchString(left)
		}
		left = less
	}
}

// goText is an expression of Go with the same parts: words are called by their places, and the power 2 is the field p2.
func goText(texts []string) string {
	var out []string
	for at, text := range texts {
		switch {
		case text == "^":
			out = append(out, ".")
		case at > 0 && texts[at-1] == "^":
			out = append(out, "p"+text)
		case slices.Contains(allSigns(), text):
			out = append(out, text)
		default:
			out = append(out, "t"+strconv.Itoa(at))
		}
	}
	return strings.Join(out, " ")
}

// branchRead is what an expression stands for.
func branchRead(texts []string, e ast.Expr) branch {
	switch e := e.(type) {
	case *ast.ParenExpr:
		return branchRead(texts, e.X)
	case *ast.UnaryExpr:
		return branch{bareNode(impl.TermNeg), []branch{branchRead(texts, e.X)}}
	case *ast.BinaryExpr:
		kinds := map[token.Token]int{token.ADD: impl.TermAdd, token.SUB: impl.TermSub, token.MUL: impl.TermMul, token.QUO: impl.TermDiv}
		return branch{bareNode(kinds[e.Op]), []branch{branchRead(texts, e.X), branchRead(texts, e.Y)}}
	case *ast.SelectorExpr:
		n, _ := strconv.Atoi(e.Sel.Name[1:])
		return branch{powNode(n), []branch{branchRead(texts, e.X)}}
	case *ast.CallExpr:
		return callRead(texts, e)
	case *ast.Ident:
		word := texts[placeOf(e)]
		if isLiteral(word) {
			return branch{node: numberNode(word)}
		}
		return branch{node: nameNode(word)}
	}
	return branch{}
}

func placeOf(e ast.Expr) int {
	at, _ := strconv.Atoi(e.(*ast.Ident).Name[1:])
	return at
}

func callRead(texts []string, e *ast.CallExpr) branch {
	var parts []branch
	for _, argument := range e.Args {
		parts = append(parts, branchRead(texts, argument))
	}
	word := texts[placeOf(e.Fun)]
	for _, row := range kindRows() {
		if row.how == word {
			return branch{bareNode(row.kind), parts}
		}
	}
	return branch{callNode(word, len(parts)), parts}
}

// readTokens is the term that tokens should be, and a code.
func readTokens(texts []string) (impl.Term, int) {
	if !areSum(texts) {
		return impl.Term{}, impl.LangBadForm
	}
	e, err := parser.ParseExpr(goText(texts))
	if err != nil {
		return impl.Term{}, -1
	}
	read := branchRead(texts, e).term()
	for _, node := range read.Nodes {
		if node.Kind == impl.TermCall && node.N > 6 {
			return impl.Term{}, impl.LangTooMany
		}
	}
	if len(read.Nodes) > 100 {
		return impl.Term{}, impl.LangTooMany
	}
	return read, 0
}

// checkTermRead holds what is read against what should be.
func checkTermRead(t *testing.T, line string) {
	t.Helper()
	tokens, code := cutLine(line)
	var want impl.Term
	if code == 0 {
		want, code = readTokens(textsOf(tokens))
	}
	if got, gotCode := impl.TermRead(line); gotCode != code || !sameTerm(got, want) {
		t.Errorf("TermRead %.200q: %v, code %d, not %v, code %d", line, got, gotCode, want, code)
	}
}

func checkReadCode(t *testing.T, line string, want int) {
	t.Helper()
	if got, code := impl.TermRead(line); code != want || code != 0 && len(got.Nodes) > 0 {
		t.Errorf("TermRead %.200q: %v, code %d, not %d", line, got, code, want)
	}
	checkTermRead(t, line)
}

// checkTermText reads a text and writes it.
func checkTermText(t *testing.T, line string, want string) {
	t.Helper()
	read, code := impl.TermRead(line)
	if text := impl.TermText(read); code != 0 || text != want {
		t.Errorf("%q: %q, code %d, not %q", line, text, code, want)
	}
	checkTermRead(t, line)
	checkTermRead(t, want)
}

// inBrackets is the text of a branch with ( ) around each part that may have some, often more than one pair of them, and with blanks all over.
func inBrackets(s *spread, b branch) string {
	texts := make([]string, len(b.parts))
	for at, part := range b.parts {
		texts[at] = inBrackets(s, part)
		if isBracketed(b.node.Kind, at, part.node.Kind) || s.next()%3 == 0 {
			texts[at] = "( " + texts[at] + ")"
		}
		texts[at] = strings.Repeat(" ", int(s.next()%2)) + texts[at] + strings.Repeat(" ", int(s.next()%2))
	}
	row, _ := rowOf(b.node.Kind)
	switch {
	case len(texts) == 0:
		return b.node.Text
	case b.node.Kind == impl.TermNeg:
		return "-" + texts[0]
	case b.node.Kind == impl.TermPow:
		return texts[0] + "^ " + strconv.Itoa(b.node.N)
	case isSum(b.node.Kind) || isProduct(b.node.Kind):
		return texts[0] + row.how + texts[1]
	}
	return b.node.Text + row.how + " (" + strings.Join(texts, ",") + ")"
}
