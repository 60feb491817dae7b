package tests

import (
	"math"
	"slices"
	"strings"
	"testing"

	"loop.example/pinfold/impl"
)

// baseProg is an ok problem with something at each place.
func baseProg(t *testing.T) impl.Prog {
	t.Helper()
	return mustProg(t, "def f(a, b) = a + b\ndef c = 2\ndef g(a) = f(a, c)\nvar x\nvar y\nf(x, y) = c\ng(x) >= y\n1 <= 2\n")
}

func TestProblemsThatAreOk(t *testing.T) {
	t.Parallel()
	checkCode(t, baseProg(t), 0)
	checkCode(t, impl.Prog{Vars: []string{"x"}, Rels: []impl.ProgRel{{Kind: 1, Left: nameOnly("x"), Right: nameOnly("x")}}}, 0)
	s := spread{163}
	for range 600 {
		checkCode(t, someProg(&s, 12), 0)
	}
	for range 100 {
		checkCode(t, someProg(&s, 100), 0)
	}
}

// In each place where a term stands, a term that is not ok is told, and there is no text.
func TestProblemsWithWrongTerms(t *testing.T) {
	base := baseProg(t)
	for at, wrong := range wrongTerms() {
		for place := range base.Defs {
			p := copied(base)
			p.Defs[place].Body = wrong
			checkCode(t, p, impl.LangBadForm)
		}
		// All places of sides, one after the other.
		p := copied(base)
		if rel := &p.Rels[at/2%len(p.Rels)]; at%2 == 0 {
			rel.Left = wrong
		} else {
			rel.Right = wrong
		}
		checkCode(t, p, impl.LangBadForm)
	}
	for place := range base.Rels {
		left, right := copied(base), copied(base)
		left.Rels[place].Left, right.Rels[place].Right = impl.Term{}, impl.Term{}
		checkCode(t, left, impl.LangBadForm)
		checkCode(t, right, impl.LangBadForm)
	}
}

func TestProblemsWithWrongKinds(t *testing.T) {
	base := baseProg(t)
	for _, kind := range []int{math.MinInt, -3, -2, -1, 0, 1, 2, 3, 4, 5, 13, math.MaxInt} {
		for place := range base.Rels {
			p := copied(base)
			p.Rels[place].Kind = kind
			want := impl.LangBadForm
			if kind >= 1 && kind <= 3 {
				want = 0
			}
			checkCode(t, p, want)
		}
	}
}

func TestProblemsWithWrongNames(t *testing.T) {
	base := baseProg(t)
	for _, name := range append(append(wordsOfTheLanguage(), allSigns()...), "", " ", "1", "2x", "X", "aB", "x.y", " x", "x ", "abcdefghi", "x\n", "\x00", "é", "\xff", "x_", strings.Repeat("x", 100000)) {
		for place := range base.Defs {
			p := copied(base)
			p.Defs[place].Name = name
			checkCode(t, p, impl.LangBadForm)
			for at := range p.Defs[place].Params {
				p = copied(base)
				p.Defs[place].Params[at] = name
				checkCode(t, p, impl.LangBadForm)
			}
		}
		for place := range base.Vars {
			p := copied(base)
			p.Vars[place] = name
			checkCode(t, p, impl.LangBadForm)
		}
	}
}

// spoil is a way to make a problem wrong, by what is put behind its lists.
type spoil struct {
	code int
	do   func(*impl.Prog)
}

func addDef(name string, params []string, body impl.Term) func(*impl.Prog) {
	return func(p *impl.Prog) {
		p.Defs = append(p.Defs, impl.ProgDef{Name: name, Params: params, Body: body})
	}
}

func addRel(kind int, left impl.Term, right impl.Term) func(*impl.Prog) {
	return func(p *impl.Prog) {
		p.Rels = append(p.Rels, impl.ProgRel{Kind: kind, Left: left, Right: right})
	}
}

func addVars(names ...string) func(*impl.Prog) {
	return func(p *impl.Prog) { p.Vars = append(p.Vars, names...) }
}

func manyDefs(p *impl.Prog) {
	for _, name := range numbered("many", 12) {
		addDef(name, nil, termWith(numberNode("1")))(p)
	}
}

func manyRels(p *impl.Prog) {
	for range 12 {
		addRel(1, termWith(numberNode("1")), termWith(numberNode("2")))(p)
	}
}

// spoils are of each code that is not of names.
func spoils() []spoil {
	one := termWith(numberNode("1"))
	return []spoil{
		{impl.LangBadForm, addDef("bad", nil, impl.Term{})}, {impl.LangBadForm, addDef("min", nil, one)}, {impl.LangBadForm, addDef("bad", []string{"b", ""}, one)}, {impl.LangBadForm, addVars("var")}, {impl.LangBadForm, addRel(0, one, one)}, {impl.LangBadForm, addRel(4, one, one)}, {impl.LangBadForm, addRel(1, impl.Term{}, one)}, {impl.LangBadForm, addRel(1, one, impl.Term{})},
		{impl.LangTooMany, manyDefs}, {impl.LangTooMany, addDef("long", numbered("p", 7), one)}, {impl.LangTooMany, addVars(numbered("v", 7)...)}, {impl.LangTooMany, func(p *impl.Prog) { manyRels(p); manyRels(p) }},
		{impl.LangAgain, addDef("c", nil, one)}, {impl.LangAgain, addDef("c", []string{"a"}, one)}, {impl.LangAgain, addVars("c")}, {impl.LangAgain, addVars("w", "w")}, {impl.LangAgain, addDef("again", []string{"a", "b", "a"}, one)},
		{impl.LangLoop, addDef("l", nil, nameOnly("l"))}, {impl.LangLoop, func(p *impl.Prog) { addDef("l1", nil, nameOnly("l2"))(p); addDef("l2", nil, nameOnly("l1"))(p) }},
	}
}

// lesses are of LangNothing, by what is taken away.
func lesses() []spoil {
	one := termWith(numberNode("1"))
	return []spoil{
		{impl.LangNothing, func(p *impl.Prog) { p.Rels = nil }}, {impl.LangNothing, func(p *impl.Prog) { p.Vars, p.Rels = nil, []impl.ProgRel{{Kind: 1, Left: one, Right: one}} }}, {impl.LangNothing, func(p *impl.Prog) { p.Vars, p.Rels = nil, nil }}, {impl.LangNothing, func(p *impl.Prog) { *p = impl.Prog{Defs: slices.Clone(p.Defs)} }},
	}
}

// nameSpoils are of the codes of names, in definitions.
func nameSpoils() []spoil {
	return []spoil{
		{impl.LangHidden, addDef("h", []string{"a", "c"}, nameOnly("nope"))}, {impl.LangHidden, addDef("h1", []string{"h1"}, nameOnly("f"))}, {impl.LangNoName, addDef("n", nil, nameOnly("nope"))}, {impl.LangNoName, addDef("n1", nil, nameOnly("x"))}, {impl.LangNoName, addDef("n2", nil, over(callNode("nope", 1), nameOnly("c")))},
		{impl.LangBadArgs, addDef("b1", nil, nameOnly("f"))}, {impl.LangBadArgs, addDef("b2", nil, over(callNode("c", 1), nameOnly("c")))}, {impl.LangBadArgs, addDef("b3", []string{"a"}, over(callNode("a", 1), nameOnly("a")))}, {impl.LangBadArgs, addDef("b4", nil, over(callNode("f", 1), nameOnly("c")))},
	}
}

// relSpoils are so in relations.
func relSpoils() []spoil {
	one := termWith(numberNode("1"))
	return []spoil{
		{impl.LangNoName, addRel(1, nameOnly("nope"), nameOnly("f"))}, {impl.LangNoName, addRel(2, one, nameOnly("a"))}, {impl.LangBadArgs, addRel(3, over(callNode("c", 1), one), nameOnly("nope"))}, {impl.LangBadArgs, addRel(3, one, nameOnly("g"))},
	}
}

func spoiled(p impl.Prog, ways ...spoil) impl.Prog {
	out := copied(p)
	for _, way := range ways {
		way.do(&out)
	}
	return out
}

func checkSpoiled(t *testing.T, want int, ways ...spoil) {
	t.Helper()
	p := baseProg(t)
	for _, way := range ways {
		way.do(&p)
	}
	checkCode(t, p, want)
}

// Each code beside each other one in one problem, put in in either order: the one that is listed first is told.
func TestCodesOfProblemsInOrder(t *testing.T) {
	all := append(append(spoils(), nameSpoils()...), relSpoils()...)
	for at, first := range all {
		checkSpoiled(t, first.code, first)
		for _, less := range lesses() {
			checkSpoiled(t, less.code, less)
			checkSpoiled(t, min(first.code, less.code), less, first)
		}
		for other, second := range spoils() {
			// The same name twice would be a fault of its own.
			if at != other {
				checkSpoiled(t, min(first.code, second.code), first, second)
				checkSpoiled(t, min(first.code, second.code), second, first)
			}
		}
	}
	checkCode(t, impl.Prog{}, impl.LangNothing)
	checkCode(t, impl.Prog{Defs: []impl.ProgDef{{}}}, impl.LangBadForm)
	checkCode(t, impl.Prog{Vars: []string{""}}, impl.LangBadForm)
	checkCode(t, impl.Prog{Rels: []impl.ProgRel{{}}}, impl.LangBadForm)
}

// Names are looked at definition by definition, and then relation by relation.
func TestCodesOfNamesInOrder(t *testing.T) {
	for _, list := range [][]spoil{nameSpoils(), relSpoils()} {
		for at, first := range list {
			for other, second := range list {
				if at != other {
					checkSpoiled(t, first.code, first, second)
				}
			}
		}
	}
	for _, def := range nameSpoils() {
		for _, rel := range relSpoils() {
			checkSpoiled(t, def.code, def, rel)
			checkSpoiled(t, def.code, rel, def)
		}
	}
}

// As many as there may be of each, and one more.
func TestProblemsOfMostParts(t *testing.T) {
	one := termWith(numberNode("1"))
	for count := 1; count <= 20; count++ {
		codeAbove := func(most int) int {
			if count > most {
				return impl.LangTooMany
			}
			return 0
		}
		p := impl.Prog{Vars: []string{"x"}}
		for _, name := range numbered("d", count) {
			addDef(name, nil, one)(&p)
		}
		addRel(2, nameOnly("x"), nameOnly("d0"))(&p)
		checkCode(t, p, codeAbove(12))
		p = impl.Prog{Vars: numbered("v", count)}
		addRel(2, nameOnly("v0"), one)(&p)
		checkCode(t, p, codeAbove(6))
		p = impl.Prog{Vars: []string{"x"}}
		for range count {
			addRel(3, nameOnly("x"), one)(&p)
		}
		checkCode(t, p, codeAbove(12))
		p = impl.Prog{Vars: []string{"x"}}
		addDef("f", numbered("p", count), nameOnly("p0"))(&p)
		addRel(3, nameOnly("x"), one)(&p)
		checkCode(t, p, codeAbove(6))
	}
	// What is there twice counts twice.
	p := impl.Prog{Vars: append(numbered("v", 6), "v0")}
	addRel(2, nameOnly("v0"), one)(&p)
	checkCode(t, p, impl.LangTooMany)
	p = impl.Prog{Vars: []string{"x"}}
	for _, name := range append(numbered("d", 12), "d11") {
		addDef(name, nil, one)(&p)
	}
	addRel(2, nameOnly("x"), one)(&p)
	checkCode(t, p, impl.LangTooMany)
	// All together, and very many.
	for count, want := range map[int]int{1: 0, 20000: impl.LangTooMany} {
		p := impl.Prog{Vars: numbered("v", 6*count)}
		for _, name := range numbered("d", 12*count) {
			addDef(name, numbered("p", 6), nameOnly("p5"))(&p)
			addRel(1, nameOnly("v5"), one)(&p)
		}
		if code := impl.ProgCode(p); code != want {
			t.Errorf("%d: code %d", count, code)
		}
		p.Rels[len(p.Rels)-1].Kind = 0
		if code := impl.ProgCode(p); code != impl.LangBadForm {
			t.Errorf("%d, and a wrong kind: code %d", count, code)
		}
	}
}

// Problems near ok ones: here and there a name, a kind, a node or an order is another one.
func TestProblemsNearOkOnes(t *testing.T) {
	t.Parallel()
	s := spread{164}
	counts := map[int]int{}
	for range 6000 {
		p := someProg(&s, 5)
		for range 1 + s.next()%3 {
			change(&s, &p)
		}
		code := codeOfProg(p)
		counts[code]++
		checkCode(t, p, code)
	}
	for code := impl.LangBadForm; code <= impl.LangNothing; code++ {
		if counts[code] < 20 {
			t.Errorf("code %d: only %d problems", code, counts[code])
		}
	}
}

// change makes a problem another one, often one that is not ok.
func change(s *spread, p *impl.Prog) {
	names := append(append(numbered("f", 12), p.Vars...), "a", "nope")
	terms := []*impl.Term{}
	for at := range p.Defs {
		terms = append(terms, &p.Defs[at].Body)
	}
	for at := range p.Rels {
		terms = append(terms, &p.Rels[at].Left, &p.Rels[at].Right)
	}
	switch way := s.next() % 10; {
	case way < 5 && len(terms) > 0:
		nodes := pick(s, terms).Nodes
		if node := &nodes[s.next()%uint64(len(nodes))]; node.Kind == impl.TermName || node.Kind == impl.TermCall {
			node.Text = pick(s, names)
		} else if s.next()%8 == 0 {
			node.N++
		}
	case way == 5 && len(p.Defs) > 0:
		def := &p.Defs[s.next()%uint64(len(p.Defs))]
		def.Name = pick(s, names)
	case way == 6 && len(p.Defs) > 0:
		def := &p.Defs[s.next()%uint64(len(p.Defs))]
		def.Params = append(slices.Clone(def.Params), pick(s, names))
	case way == 7:
		p.Vars = slices.Concat(p.Vars, []string{pick(s, names)})
	case way == 8 && s.next()%4 == 0:
		p.Rels = nil
	case way == 8 && len(p.Defs) > 0:
		def := &p.Defs[s.next()%uint64(len(p.Defs))]
		other := pick(s, p.Defs)
		def.Body = over(callNode(other.Name, len(other.Params)), slices.Repeat([]impl.Term{termWith(numberNode("1"))}, len(other.Params))...)
		if len(other.Params) == 0 {
			def.Body = nameOnly(other.Name)
		}
	case len(p.Rels) > 0:
		p.Rels = append(p.Rels, p.Rels[s.next()%uint64(len(p.Rels))])
	}
}
