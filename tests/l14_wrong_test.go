package tests

import (
	"slices"
	"testing"

	"loop.example/pinfold/impl"
)

// checkAnswersNothing asks all six functions for a problem that is not ok.
func checkAnswersNothing(t *testing.T, p impl.Prog) {
	t.Helper()
	if code := codeOfProg(p); code == 0 || impl.ProgCode(p) != code {
		t.Fatalf("the test itself has code %d for %v", code, p)
	}
	if names, ok := impl.ProgOrder(p); ok || len(names) > 0 {
		t.Errorf("ProgOrder of %v: %v, %v", p, names, ok)
	}
	if got, ok := impl.ProgFlat(p); ok || !isNothing(got) {
		t.Errorf("ProgFlat of %v: %v, %v", p, got, ok)
	}
	for _, name := range append(allNames(p), "", "nope") {
		if names := impl.ProgUses(p, name); len(names) > 0 {
			t.Errorf("ProgUses of %v, %q: %v", p, name, names)
		}
		if got, ok := impl.ProgInline(p, name); ok || !isNothing(got) {
			t.Errorf("ProgInline of %v, %q: %v, %v", p, name, got, ok)
		}
		for _, other := range []string{"fresh", name, ""} {
			if got, ok := impl.ProgRename(p, name, other); ok || !isNothing(got) {
				t.Errorf("ProgRename of %v, %q, %q: %v, %v", p, name, other, got, ok)
			}
		}
	}
	for n := -1; n <= len(p.Vars); n++ {
		if got, ok := impl.ProgShift(p, n); ok || !isNothing(got) {
			t.Errorf("ProgShift of %v, %d: %v, %v", p, n, got, ok)
		}
	}
}

// In each way that ProgCode tells.
func TestDefinitionsOfWrongProblems(t *testing.T) {
	seen := map[int]int{}
	base := baseProg(t)
	for _, list := range [][]spoil{spoils(), nameSpoils(), relSpoils(), lesses()} {
		for _, way := range list {
			p := spoiled(base, way)
			seen[codeOfProg(p)]++
			checkAnswersNothing(t, p)
		}
	}
	for code := impl.LangBadForm; code <= impl.LangNothing; code++ {
		if seen[code] == 0 {
			t.Errorf("no problem of code %d", code)
		}
	}
	checkAnswersNothing(t, impl.Prog{})
	checkAnswersNothing(t, impl.Prog{Defs: base.Defs})
	checkAnswersNothing(t, impl.Prog{Defs: base.Defs, Vars: base.Vars})
}

// Loops of all lengths, in each place, beside definitions that are right.
func TestDefinitionsOfLoops(t *testing.T) {
	for count := 1; count <= 4; count++ {
		names := numbered("l", count)
		permuted(names, 0, func(order []string) {
			p := copied(baseProg(t))
			for at, name := range order {
				next := numbered("l", count)[(int(name[1]-'0')+1)%count]
				addDef(name, []string{"q"}, over(callNode(next, 1), nameOnly("q")))(&p)
				if last := len(p.Defs) - 1; at == 0 {
					p.Defs = slices.Concat(p.Defs[last:], p.Defs[:last])
				}
			}
			checkAnswersNothing(t, p)
		})
	}
}

func TestDefinitionsOfWrongTerms(t *testing.T) {
	base := baseProg(t)
	for at, wrong := range wrongTerms() {
		p := copied(base)
		p.Defs[at%len(p.Defs)].Body = wrong
		checkAnswersNothing(t, p)
		q := copied(base)
		q.Rels[at%len(q.Rels)].Left = wrong
		checkAnswersNothing(t, q)
	}
}

func TestDefinitionsOfManyWrongProblems(t *testing.T) {
	t.Parallel()
	s := spread{196}
	wrong := 0
	for range 2000 {
		p := someProg(&s, 6)
		for range 1 + s.next()%3 {
			change(&s, &p)
		}
		if codeOfProg(p) != 0 {
			wrong++
			checkAnswersNothing(t, p)
			continue
		}
		checkDefOrder(t, p)
		checkFlat(t, p)
	}
	if wrong < 500 {
		t.Errorf("only %d wrong problems", wrong)
	}
}
