package tests

import (
	"regexp"
	"slices"
	"strings"
	"testing"

	"loop.example/pinfold/impl"
)

// What a line is cut into is held here against regular expressions, which know nothing of the program.

var (
	pieceForm = regexp.MustCompile(`(?s)[0-9](?:e-|[a-z0-9.])*|[a-z][a-z0-9.]*|<=|>=|.`)
	wordForm  = regexp.MustCompile(`\A[a-z][a-z0-9]{0,7}\z`)
	signForm  = regexp.MustCompile(`\A(?:[-+*/^(),=]|<=|>=)\z`)
	ownForm   = regexp.MustCompile(`\A(?:def|var|sqrt|abs|min|max)\z`)
)

func wordsOfTheLanguage() []string { return []string{"def", "var", "sqrt", "abs", "min", "max"} }

func allSigns() []string {
	return []string{"+", "-", "*", "/", "^", "(", ")", ",", "=", "<=", ">="}
}

// isName says whether a text should be a name.
func isName(text string) bool { return wordForm.MatchString(text) && !ownForm.MatchString(text) }

// pieceKind is the kind of token that a piece of a line should be, or 0 and a code.
func pieceKind(piece string) (int, int) {
	switch {
	case wordForm.MatchString(piece):
		return impl.TokenName, 0
	case isLiteral(piece):
		return impl.TokenNumber, 0
	case signForm.MatchString(piece):
		return impl.TokenSign, 0
	case piece[0] >= '0' && piece[0] <= '9':
		return 0, impl.LangBadNumber
	}
	return 0, impl.LangBadByte
}

// cutLine is what a line should be cut into.
func cutLine(line string) ([]impl.LangToken, int) {
	if len(line) > 1000 {
		return nil, impl.LangTooLong
	}
	ahead, _, _ := strings.Cut(line, "#")
	var tokens []impl.LangToken
	var codes []int
	for _, piece := range pieceForm.FindAllString(ahead, -1) {
		if piece == " " {
			continue
		}
		kind, code := pieceKind(piece)
		tokens = append(tokens, impl.LangToken{Kind: kind, Text: piece})
		codes = append(codes, code)
	}
	for _, code := range []int{impl.LangBadByte, impl.LangBadNumber} {
		if slices.Contains(codes, code) {
			return nil, code
		}
	}
	if len(tokens) > 300 {
		return nil, impl.LangTooMany
	}
	return tokens, 0
}

func checkLine(t *testing.T, line string) {
	t.Helper()
	want, wantCode := cutLine(line)
	got, code := impl.LangTokens(line)
	if code != wantCode || !slices.Equal(got, want) {
		t.Errorf("LangTokens %.100q: %v, code %d, not %v, code %d", line, got, code, want, wantCode)
	}
}

func checkLineCode(t *testing.T, line string, want int) {
	t.Helper()
	if tokens, code := impl.LangTokens(line); code != want || code != 0 && len(tokens) > 0 {
		t.Errorf("LangTokens %.100q: %v, code %d, not %d", line, tokens, code, want)
	}
	checkLine(t, line)
}

// checkPieces holds the texts of a line's tokens against a list with blanks between.
func checkPieces(t *testing.T, line string, want string) {
	t.Helper()
	tokens, code := impl.LangTokens(line)
	if got := strings.Join(textsOf(tokens), " "); code != 0 || got != want {
		t.Errorf("LangTokens %q: %q, code %d, not %q", line, got, code, want)
	}
	checkLine(t, line)
}

func textsOf(tokens []impl.LangToken) []string {
	var texts []string
	for _, token := range tokens {
		texts = append(texts, token.Text)
	}
	return texts
}

// pick is one of a list.
func pick[T any](s *spread, list []T) T { return list[s.next()%uint64(len(list))] }

// somePiece is a token, now and then a faulty one.
func somePiece(s *spread, faults bool) string {
	good := append(allSigns(), "x", "y1", "e", "e1", "abcdefgh", "min", "sqrt", "def", "0", "1", "2.5", "1e-3", "7e400", "0.5e-12")
	bad := []string{"<", ">", ".", "&", "X", "\t", "\x00", "\x80", "é", "1e-", "00", "2x", "1.", "x.", "abcdefghi", "1e401", "3e-x", "!"}
	if faults && s.next()%8 == 0 {
		return pick(s, bad)
	}
	return pick(s, good)
}

// someLine is pieces with blanks between, or none.
func someLine(s *spread, count int, faults bool) string {
	var line strings.Builder
	for range count {
		line.WriteString(somePiece(s, faults))
		line.WriteString(strings.Repeat(" ", int(s.next()%3)))
	}
	return line.String()
}
