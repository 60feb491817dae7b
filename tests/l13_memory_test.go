package tests

import (
	"slices"
	"testing"

	"loop.example/pinfold/impl"
)

// guardedProg is a problem with spare room behind all its lists, and a way to see whether that or the problem was written to.
func guardedProg(p impl.Prog) (impl.Prog, func() bool) {
	var cleans []func() bool
	guard := func(term impl.Term) impl.Term {
		out, clean := guardedTerm(term)
		cleans = append(cleans, clean)
		return out
	}
	names := func(list []string) []string {
		out, clean := guardedNames(list)
		cleans = append(cleans, clean)
		return out
	}
	out := impl.Prog{Vars: names(p.Vars)}
	for _, def := range p.Defs {
		out.Defs = append(out.Defs, impl.ProgDef{Name: def.Name, Params: names(def.Params), Body: guard(def.Body)})
	}
	for _, rel := range p.Rels {
		out.Rels = append(out.Rels, impl.ProgRel{Kind: rel.Kind, Left: guard(rel.Left), Right: guard(rel.Right)})
	}
	defs := append(out.Defs, impl.ProgDef{Name: "room"}, impl.ProgDef{Name: "more"})
	rels := append(out.Rels, impl.ProgRel{Kind: 7}, impl.ProgRel{Kind: 8})
	beforeDefs, beforeRels := slices.Clone(defs), slices.Clone(rels)
	out.Defs, out.Rels = defs[:len(p.Defs)], rels[:len(p.Rels)]
	return out, func() bool {
		written := func(clean func() bool) bool { return !clean() }
		return !slices.ContainsFunc(cleans, written) && slices.EqualFunc(defs, beforeDefs, sameDef) && slices.EqualFunc(rels, beforeRels, sameRel)
	}
}

// No function writes into a problem that it was handed.
func TestProblemsAreNotWrittenTo(t *testing.T) {
	s := spread{181}
	for at := range 300 {
		p := someProg(&s, 8)
		for range at % 3 {
			change(&s, &p)
		}
		guarded, clean := guardedProg(p)
		impl.ProgCode(guarded)
		impl.ProgText(guarded)
		if !clean() {
			t.Errorf("%v is written to", p)
		}
	}
}

// inked writes all over one list of a problem after the other, spare room too, and sees each time that the others stay as they were.
func inked(t *testing.T, p impl.Prog) {
	t.Helper()
	want := copied(p)
	check := func() {
		t.Helper()
		if !sameProg(p, want) {
			t.Errorf("two lists share memory: %v, not %v", p, want)
		}
	}
	for at := range p.Defs {
		scribble(p.Defs[at].Params, "ink")
		scribble(want.Defs[at].Params, "ink")
		check()
		scribble(p.Defs[at].Body.Nodes, nodeInk())
		scribble(want.Defs[at].Body.Nodes, nodeInk())
		check()
	}
	for at := range p.Rels {
		scribble(p.Rels[at].Left.Nodes, nodeInk())
		scribble(want.Rels[at].Left.Nodes, nodeInk())
		check()
		scribble(p.Rels[at].Right.Nodes, nodeInk())
		scribble(want.Rels[at].Right.Nodes, nodeInk())
		check()
	}
	scribble(p.Vars, "ink")
	scribble(want.Vars, "ink")
	check()
}

// What is read is new memory, no two lists of it share any, and nothing is kept.
func TestProblemsThatAreReadShareNoMemory(t *testing.T) {
	s := spread{182}
	for range 100 {
		p := someProg(&s, 8)
		text := textOfProg(p)
		if !fitsLimits(text) {
			continue
		}
		for range 2 {
			got, fault := impl.ProgRead(text)
			if fault.Code != 0 || !sameProg(got, p) {
				t.Errorf("ProgRead %q: %v, %v", text, got, fault)
			}
			inked(t, got)
			scribble(got.Defs, impl.ProgDef{Name: "ink"})
			scribble(got.Rels, impl.ProgRel{Kind: 7})
		}
	}
}
