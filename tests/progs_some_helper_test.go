package tests

import (
	"slices"
	"strconv"
	"strings"

	"loop.example/pinfold/impl"
)

// inScope is a branch of just so many nodes whose names fit: own are parameters or variables, defs what may be used.
func inScope(s *spread, count int, own []string, defs []impl.ProgDef) branch {
	words := slices.Clone(own)
	var calls []impl.ProgDef
	for _, def := range defs {
		if len(def.Params) == 0 {
			words = append(words, def.Name)
		} else if len(def.Params) < count {
			calls = append(calls, def)
		}
	}
	var node impl.TermNode
	parts := min(count-1, 1+int(s.next()%2))
	switch {
	case count == 1 && len(words) > 0 && s.next()%4 > 0:
		node = nameNode(pick(s, words))
	case count == 1:
		node = numberNode(pick(s, someNumbers()))
	case len(calls) > 0 && s.next()%2 == 0:
		def := pick(s, calls)
		parts = len(def.Params)
		node = callNode(def.Name, parts)
	default:
		for node = someNode(s, parts); node.Kind == impl.TermCall; {
			node = someNode(s, parts)
		}
	}
	out := branch{node: node}
	left := count - 1
	for at := range parts {
		size := left
		if behind := parts - at - 1; behind > 0 {
			size = 1 + int(s.next()%uint64(left-behind))
		}
		out.parts = append(out.parts, inScope(s, size, own, defs))
		left -= size
	}
	return out
}

// shuffled is a list in another order.
func shuffled[T any](s *spread, list []T) []T {
	out := slices.Clone(list)
	for at := range out {
		other := at + int(s.next()%uint64(len(out)-at))
		out[at], out[other] = out[other], out[at]
	}
	return out
}

// numbered are names with one letter ahead.
func numbered(letter string, count int) []string {
	var names []string
	for at := range count {
		names = append(names, letter+strconv.Itoa(at))
	}
	return names
}

// someProg is an ok problem whose terms have at most so many nodes.
func someProg(s *spread, most int) impl.Prog {
	var p impl.Prog
	size := func() int { return 1 + int(s.next()%uint64(most)) }
	p.Vars = shuffled(s, []string{"x", "y", "z", "a", "b", "u"})[:1+s.next()%6]
	for _, name := range shuffled(s, numbered("f", 12))[:s.next()%13] {
		// A parameter may have the name of a variable.
		params := shuffled(s, []string{"a", "b", "c", "d", "x", "abcdefgh", "e1"})[:s.next()%7]
		p.Defs = append(p.Defs, impl.ProgDef{Name: name, Params: params, Body: inScope(s, size(), params, p.Defs).term()})
	}
	for range 1 + s.next()%12 {
		p.Rels = append(p.Rels, impl.ProgRel{Kind: 1 + int(s.next()%3), Left: inScope(s, size(), p.Vars, p.Defs).term(), Right: inScope(s, size(), p.Vars, p.Defs).term()})
	}
	p.Defs = shuffled(s, p.Defs)
	return p
}

// copied is a problem that shares no memory with another one.
func copied(p impl.Prog) impl.Prog {
	term := func(t impl.Term) impl.Term { return impl.Term{Nodes: slices.Clone(t.Nodes)} }
	out := impl.Prog{Vars: slices.Clone(p.Vars)}
	for _, def := range p.Defs {
		out.Defs = append(out.Defs, impl.ProgDef{Name: def.Name, Params: slices.Clone(def.Params), Body: term(def.Body)})
	}
	for _, rel := range p.Rels {
		out.Rels = append(out.Rels, impl.ProgRel{Kind: rel.Kind, Left: term(rel.Left), Right: term(rel.Right)})
	}
	return out
}

// faultyLine is a line with a code of its own, whatever stands ahead of it.
type faultyLine struct {
	code int
	line string
}

func tooManyNodes() string { return strings.Repeat("-", 100) + "1" }

// faultyLines are of each code of a line.
func faultyLines() []faultyLine {
	return []faultyLine{
		{impl.LangTooLong, "#" + strings.Repeat(" ", 1000)}, {impl.LangTooLong, strings.Repeat("x", 1001)}, {impl.LangBadByte, "{"}, {impl.LangBadByte, "1 = 1\r"}, {impl.LangBadNumber, "1 = 01"}, {impl.LangBadNumber, "var 2x"},
		{impl.LangBadForm, "1 + 1"}, {impl.LangBadForm, "def"}, {impl.LangBadForm, "var min"}, {impl.LangBadForm, "1 = 1 = 1"}, {impl.LangTooMany, "s(1,2,3,4,5,6,7) = 1"}, {impl.LangTooMany, "def s(a,b,c,d,e,f,g) = 1"}, {impl.LangTooMany, "1 = " + tooManyNodes()}, {impl.LangTooMany, strings.Repeat("+", 301)}, {impl.LangAgain, "def s(a, a) = 1"},
	}
}

// namedLines have a code by their names, if no line has one; each says what no other one does.
func namedLines() []faultyLine {
	return []faultyLine{
		{impl.LangHidden, "def p(p) = 1"}, {impl.LangHidden, "def p1(a, p1) = nope"}, {impl.LangNoName, "nope = 1"}, {impl.LangNoName, "1 = nope(1)"}, {impl.LangNoName, "def q = nope"}, {impl.LangBadArgs, "def r(a) = a(1)"}, {impl.LangBadArgs, "def r1 = r1(1)"}, {impl.LangBadArgs, "def r2(a) = r2"},
	}
}

// someText is a text near a problem: lines that fit, lines that do not, and lines that say nothing.
func someText(s *spread) string {
	p := someProg(s, 6)
	lines := linesOf(textOfProg(p))
	lines = shuffled(s, lines)[:1+s.next()%uint64(len(lines))]
	if s.next()%3 > 0 {
		// All lines of the problem, so that names are there.
		lines = shuffled(s, linesOf(textOfProg(p)))
	}
	for range s.next() % 3 {
		lines = slices.Insert(lines, int(s.next()%uint64(len(lines)+1)), someOddLine(s, lines))
	}
	for at := range lines {
		if s.next()%6 == 0 {
			lines[at] = strings.ReplaceAll(lines[at], " ", "") + " # " + lines[at]
			lines[at] = strings.Replace(strings.Replace(lines[at], "def", "def ", 1), "var", "var ", 1)
		}
	}
	return strings.Join(lines, "\n") + pick(s, []string{"", "\n", "\n\n", "\n \n"})
}

// someOddLine is one that often does not fit the others.
func someOddLine(s *spread, lines []string) string {
	switch s.next() % 8 {
	case 0:
		return pick(s, faultyLines()).line
	case 1:
		return pick(s, namedLines()).line
	case 2:
		return pick(s, lines)
	case 3:
		return pick(s, silentLines())
	case 4:
		return "def l = l"
	case 5:
		// A definition that others may use, and that uses one of them.
		return "def " + pick(s, numbered("f", 12)) + " = " + pick(s, numbered("f", 12)) + "(1)"
	case 6:
		texts := textsOfLine(pick(s, lines))
		at := int(s.next() % uint64(len(texts)+1))
		return strings.Join(slices.Insert(texts, at, pick(s, append(allSigns(), "x", "f1", "def", "var", "2"))), " ")
	}
	texts := textsOfLine(pick(s, lines))
	at := int(s.next() % uint64(len(texts)+1))
	return strings.Join(slices.Delete(texts, at, min(at+1, len(texts))), " ")
}

func textsOfLine(line string) []string {
	tokens, _ := cutLine(line)
	return textsOf(tokens)
}

// silentLines are lines without tokens.
func silentLines() []string {
	return []string{"", " ", "     ", "#", "# x", " # var x", "#{\x00\xff\t", "#\r", "##", strings.Repeat(" ", 1000), "#" + strings.Repeat("x", 999)}
}
