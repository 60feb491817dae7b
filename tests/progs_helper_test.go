package tests

import (
	"regexp"
	"slices"
	"strings"
	"testing"

	"loop.example/pinfold/impl"
)

// Problems are held here against the document's lists of codes, gone through one code after the other over the whole problem, and their lines against regular expressions over tokens with one blank between.

var (
	defForm = regexp.MustCompile(`\Adef ([a-z0-9]+)(?: \( ([a-z0-9]+(?: , [a-z0-9]+)*) \))? = (.+)\z`)
	varForm = regexp.MustCompile(`\Avar ([a-z0-9]+)\z`)
	relForm = regexp.MustCompile(`\A(.+?) (=|<=|>=) (.+)\z`)
)

func sameDef(a impl.ProgDef, b impl.ProgDef) bool {
	return a.Name == b.Name && slices.Equal(a.Params, b.Params) && sameTerm(a.Body, b.Body)
}

func sameRel(a impl.ProgRel, b impl.ProgRel) bool {
	return a.Kind == b.Kind && sameTerm(a.Left, b.Left) && sameTerm(a.Right, b.Right)
}

func sameProg(a impl.Prog, b impl.Prog) bool {
	return slices.EqualFunc(a.Defs, b.Defs, sameDef) && slices.Equal(a.Vars, b.Vars) && slices.EqualFunc(a.Rels, b.Rels, sameRel)
}

func isNothing(p impl.Prog) bool { return len(p.Defs) == 0 && len(p.Vars) == 0 && len(p.Rels) == 0 }

// allNames are all that should be names in a problem.
func allNames(p impl.Prog) []string {
	names := slices.Clone(p.Vars)
	for _, def := range p.Defs {
		names = append(append(names, def.Name), def.Params...)
	}
	return names
}

func allTerms(p impl.Prog) []impl.Term {
	var terms []impl.Term
	for _, def := range p.Defs {
		terms = append(terms, def.Body)
	}
	for _, rel := range p.Rels {
		terms = append(terms, rel.Left, rel.Right)
	}
	return terms
}

// isFormed says whether all terms, kinds and names of a problem are ones.
func isFormed(p impl.Prog) bool {
	noTerm := func(term impl.Term) bool { _, ok := branchOf(term); return !ok }
	noName := func(name string) bool { return !isName(name) }
	noKind := func(rel impl.ProgRel) bool { return !slices.Contains([]int{1, 2, 3}, rel.Kind) }
	return !slices.ContainsFunc(allTerms(p), noTerm) && !slices.ContainsFunc(allNames(p), noName) && !slices.ContainsFunc(p.Rels, noKind)
}

func isWithinLimits(p impl.Prog) bool {
	long := func(def impl.ProgDef) bool { return len(def.Params) > 6 }
	return len(p.Defs) <= 12 && len(p.Vars) <= 6 && len(p.Rels) <= 12 && !slices.ContainsFunc(p.Defs, long)
}

// areUnlike says whether no two of a list are one.
func areUnlike(names []string) bool {
	sorted := slices.Clone(names)
	slices.Sort(sorted)
	return len(slices.Compact(sorted)) == len(names)
}

func defNames(p impl.Prog) []string {
	var names []string
	for _, def := range p.Defs {
		names = append(names, def.Name)
	}
	return names
}

func isUnlike(p impl.Prog) bool {
	twice := func(def impl.ProgDef) bool { return !areUnlike(def.Params) }
	return areUnlike(append(defNames(p), p.Vars...)) && !slices.ContainsFunc(p.Defs, twice)
}

// nodesCode is the code of the first node whose name does not fit; own are the parameters or the variables.
func nodesCode(p impl.Prog, own []string, nodes []impl.TermNode) int {
	for _, node := range nodes {
		isCall := node.Kind == impl.TermCall
		if node.Kind != impl.TermName && !isCall {
			continue
		}
		at := slices.Index(defNames(p), node.Text)
		isOwn := slices.Contains(own, node.Text)
		switch {
		case at < 0 && !isOwn:
			return impl.LangNoName
		case isOwn && isCall, !isOwn && isCall && len(p.Defs[at].Params) != node.N, !isOwn && !isCall && len(p.Defs[at].Params) > 0:
			return impl.LangBadArgs
		}
	}
	return 0
}

func defCode(p impl.Prog, def impl.ProgDef) int {
	for _, name := range def.Params {
		if slices.Contains(defNames(p), name) {
			return impl.LangHidden
		}
	}
	return nodesCode(p, def.Params, def.Body.Nodes)
}

func relCode(p impl.Prog, rel impl.ProgRel) int {
	return nodesCode(p, p.Vars, append(slices.Clone(rel.Left.Nodes), rel.Right.Nodes...))
}

// usesTable tells of each definition, by places, which ones it uses: a table of whose body names whom that is closed step by step.
func usesTable(p impl.Prog) [][]bool {
	uses := make([][]bool, len(p.Defs))
	for at, def := range p.Defs {
		uses[at] = make([]bool, len(p.Defs))
		for _, node := range def.Body.Nodes {
			if to := slices.Index(defNames(p), node.Text); to >= 0 && node.Text != "" {
				uses[at][to] = true
			}
		}
	}
	for by := range uses {
		for from := range uses {
			for to := range uses {
				uses[from][to] = uses[from][to] || uses[from][by] && uses[by][to]
			}
		}
	}
	return uses
}

// firstLoop is the place of the first definition that uses itself; -1, if none does.
func firstLoop(p impl.Prog) int {
	for at, uses := range usesTable(p) {
		if uses[at] {
			return at
		}
	}
	return -1
}

// codeOfProg is the code that a problem should have.
func codeOfProg(p impl.Prog) int {
	switch {
	case !isFormed(p):
		return impl.LangBadForm
	case !isWithinLimits(p):
		return impl.LangTooMany
	case !isUnlike(p):
		return impl.LangAgain
	}
	for _, def := range p.Defs {
		if code := defCode(p, def); code != 0 {
			return code
		}
	}
	for _, rel := range p.Rels {
		if code := relCode(p, rel); code != 0 {
			return code
		}
	}
	switch {
	case firstLoop(p) >= 0:
		return impl.LangLoop
	case len(p.Vars) == 0 || len(p.Rels) == 0:
		return impl.LangNothing
	}
	return 0
}

// readSides are the terms of two rows of tokens with blanks between.
func readSides(texts ...string) ([]impl.Term, int) {
	var terms []impl.Term
	var codes []int
	for _, text := range texts {
		term, code := readTokens(strings.Fields(text))
		terms, codes = append(terms, term), append(codes, code)
	}
	for _, code := range []int{impl.LangBadForm, impl.LangTooMany} {
		if slices.Contains(codes, code) {
			return nil, code
		}
	}
	return terms, slices.Max(codes)
}

// addLine is a problem with what a line says, or a code.
func addLine(p impl.Prog, line string) (impl.Prog, int) {
	tokens, code := cutLine(line)
	if code != 0 || len(tokens) == 0 {
		return p, code
	}
	joined := strings.Join(textsOf(tokens), " ")
	def, variable, rel := defForm.FindStringSubmatch(joined), varForm.FindStringSubmatch(joined), relForm.FindStringSubmatch(joined)
	switch {
	case def != nil:
		var params []string
		if def[2] != "" {
			params = strings.Split(def[2], " , ")
		}
		bodies, code := readSides(def[3])
		if slices.ContainsFunc(append(params, def[1]), func(name string) bool { return !isName(name) }) {
			return p, impl.LangBadForm
		}
		if code != 0 {
			return p, code
		}
		p.Defs = append(slices.Clone(p.Defs), impl.ProgDef{Name: def[1], Params: params, Body: bodies[0]})
	case variable != nil:
		p.Vars = append(slices.Clone(p.Vars), variable[1])
	case rel != nil:
		sides, code := readSides(rel[1], rel[3])
		if code != 0 {
			return p, code
		}
		p.Rels = append(slices.Clone(p.Rels), impl.ProgRel{Kind: 1 + slices.Index([]string{"<=", ">=", "="}, rel[2]), Left: sides[0], Right: sides[1]})
	default:
		return p, impl.LangBadForm
	}
	switch {
	case !isFormed(p):
		return p, impl.LangBadForm
	case !isWithinLimits(p):
		return p, impl.LangTooMany
	case !isUnlike(p):
		return p, impl.LangAgain
	}
	return p, 0
}

// linesOf are the lines of a text.
func linesOf(text string) []string {
	lines := strings.Split(text, "\n")
	if last := len(lines) - 1; lines[last] == "" {
		lines = lines[:last]
	}
	return lines
}

// readProg is what a text should be read as.
func readProg(text string) (impl.Prog, impl.LangFault) {
	if len(text) > 8000 {
		return impl.Prog{}, impl.LangFault{Code: impl.LangTooLong}
	}
	var p impl.Prog
	var defLines []int
	// The statement of each line, to be looked at when all are there.
	looks := map[int]func() int{}
	lines := linesOf(text)
	for at, line := range lines {
		more, code := addLine(p, line)
		if code != 0 {
			return impl.Prog{}, impl.LangFault{Line: at + 1, Code: code}
		}
		if len(more.Defs) > len(p.Defs) {
			defLines = append(defLines, at+1)
			looks[at] = func() int { return defCode(p, more.Defs[len(more.Defs)-1]) }
		}
		if len(more.Rels) > len(p.Rels) {
			looks[at] = func() int { return relCode(p, more.Rels[len(more.Rels)-1]) }
		}
		p = more
	}
	for at := range lines {
		if look, is := looks[at]; is && look() != 0 {
			return impl.Prog{}, impl.LangFault{Line: at + 1, Code: look()}
		}
	}
	if at := firstLoop(p); at >= 0 {
		return impl.Prog{}, impl.LangFault{Line: defLines[at], Code: impl.LangLoop}
	}
	if len(p.Vars) == 0 || len(p.Rels) == 0 {
		return impl.Prog{}, impl.LangFault{Code: impl.LangNothing}
	}
	return p, impl.LangFault{}
}

// textOfProg is the text that an ok problem should have.
func textOfProg(p impl.Prog) string {
	var lines []string
	written := func(term impl.Term) string { grown, _ := branchOf(term); return grown.text() }
	for _, def := range p.Defs {
		params := ""
		if len(def.Params) > 0 {
			params = "(" + strings.Join(def.Params, ", ") + ")"
		}
		lines = append(lines, "def "+def.Name+params+" = "+written(def.Body))
	}
	for _, name := range p.Vars {
		lines = append(lines, "var "+name)
	}
	for _, rel := range p.Rels {
		lines = append(lines, written(rel.Left)+[]string{"", " <= ", " >= ", " = "}[rel.Kind]+written(rel.Right))
	}
	return strings.Join(append(lines, ""), "\n")
}

// checkProg holds what a text is read as against what it should be, and answers both.
func checkProg(t *testing.T, text string) (impl.Prog, impl.LangFault) {
	t.Helper()
	want, wantFault := readProg(text)
	got, fault := impl.ProgRead(text)
	if fault != wantFault || !sameProg(got, want) {
		t.Errorf("ProgRead %.300q: %v, %v, not %v, %v", text, got, fault, want, wantFault)
	}
	return got, fault
}

// checkFault wants a line and a code; none, if both are 0.
func checkFault(t *testing.T, text string, line int, code int) {
	t.Helper()
	got, fault := checkProg(t, text)
	if fault != (impl.LangFault{Line: line, Code: code}) || code != 0 && !isNothing(got) {
		t.Errorf("ProgRead %.300q: %v, %v, not line %d, code %d", text, got, fault, line, code)
	}
}

// checkCode wants a code of a problem, and its text.
func checkCode(t *testing.T, p impl.Prog, want int) {
	t.Helper()
	if code := codeOfProg(p); code != want {
		t.Fatalf("the test itself has code %d, not %d, for %v", code, want, p)
	}
	if code := impl.ProgCode(p); code != want {
		t.Errorf("ProgCode %v: %d, not %d", p, code, want)
	}
	wantText := ""
	if want == 0 {
		wantText = textOfProg(p)
	}
	if text := impl.ProgText(p); text != wantText {
		t.Errorf("ProgText %v: %q, not %q", p, text, wantText)
	}
}

// mustProg is the problem of a text that is one.
func mustProg(t *testing.T, text string) impl.Prog {
	t.Helper()
	p, fault := impl.ProgRead(text)
	if fault != (impl.LangFault{}) {
		t.Fatalf("ProgRead %q: %v", text, fault)
	}
	return p
}
