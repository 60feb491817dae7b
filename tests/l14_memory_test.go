package tests

import (
	"slices"
	"testing"

	"loop.example/pinfold/impl"
)

// changes are all ways to make a problem of a problem, with all names and places that it has.
func changes(p impl.Prog) []func(impl.Prog) (impl.Prog, bool) {
	out := []func(impl.Prog) (impl.Prog, bool){impl.ProgFlat}
	for _, name := range append(defNames(p), "nope") {
		out = append(out, func(p impl.Prog) (impl.Prog, bool) { return impl.ProgInline(p, name) })
	}
	for _, old := range append(slices.Clone(p.Vars), "nope") {
		out = append(out, func(p impl.Prog) (impl.Prog, bool) { return impl.ProgRename(p, old, "fresh") })
	}
	for n := range len(p.Vars) + 1 {
		out = append(out, func(p impl.Prog) (impl.Prog, bool) { return impl.ProgShift(p, n) })
	}
	return out
}

// inkedAll writes all over a problem, its own lists last.
func inkedAll(t *testing.T, p impl.Prog) {
	t.Helper()
	inked(t, p)
	scribble(p.Defs, impl.ProgDef{Name: "ink"})
	scribble(p.Rels, impl.ProgRel{Kind: 7})
}

// What is answered is new memory, no two lists of it share any, and nothing is written into what was handed in.
func TestChangedProblemsShareNoMemory(t *testing.T) {
	t.Parallel()
	s := spread{197}
	for at := range 150 {
		p := someProg(&s, []int{1, 3, 8}[at%3])
		handed, clean := guardedProg(p)
		for _, made := range changes(p) {
			want, wantOk := made(p)
			first, ok := made(handed)
			second, _ := made(handed)
			if ok != wantOk || !sameProg(first, want) || !sameProg(second, want) {
				t.Errorf("two answers for %q: %v, %v", textOfProg(p), first, second)
			}
			inkedAll(t, first)
			if !sameProg(second, want) {
				t.Errorf("two answers for %q share memory", textOfProg(p))
			}
			inkedAll(t, second)
			if !clean() {
				t.Fatalf("%q is written to", textOfProg(p))
			}
		}
	}
}

// What is written into a problem that was handed in changes no answer.
func TestAnswersKeepNothingOfProblems(t *testing.T) {
	s := spread{198}
	for range 100 {
		p := someProg(&s, 5)
		for _, made := range changes(p) {
			handed := copied(p)
			got, ok := made(handed)
			want := copied(got)
			inkedAll(t, handed)
			if !sameProg(got, want) {
				t.Errorf("an answer for %q changed with the problem", textOfProg(p))
			}
			if again, is := made(p); is != ok || !sameProg(again, want) {
				t.Errorf("another answer for %q", textOfProg(p))
			}
		}
	}
}

func TestListsOfDefinitionsShareNoMemory(t *testing.T) {
	s := spread{199}
	for range 200 {
		p := someProg(&s, 8)
		handed, clean := guardedProg(p)
		order, _ := impl.ProgOrder(handed)
		again, _ := impl.ProgOrder(handed)
		scribble(order, "ink")
		if !slices.Equal(again, orderOf(p)) {
			t.Errorf("ProgOrder of %q: %v", textOfProg(p), again)
		}
		for _, name := range defNames(p) {
			uses, more := impl.ProgUses(handed, name), impl.ProgUses(handed, name)
			scribble(uses, "ink")
			if !slices.Equal(more, usesOf(p, name)) {
				t.Errorf("ProgUses of %q, %q: %v", textOfProg(p), name, more)
			}
		}
		if !clean() {
			t.Fatalf("%q is written to", textOfProg(p))
		}
	}
}
