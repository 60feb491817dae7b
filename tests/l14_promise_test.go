package tests

import (
	"slices"
	"testing"

	"loop.example/pinfold/impl"
)

// Promise 42: ProgOrder has each definition once, all that it uses ahead of it; what a definition uses uses nothing that it does not use, nor itself.
func TestOrdersHaveWhatIsUsedAhead(t *testing.T) {
	t.Parallel()
	s := spread{201}
	used := 0
	for range 1500 {
		p := someProg(&s, 1+int(s.next()%10))
		order, ok := impl.ProgOrder(p)
		sorted, names := slices.Sorted(slices.Values(order)), slices.Sorted(slices.Values(defNames(p)))
		if !ok || !slices.Equal(sorted, names) {
			t.Errorf("ProgOrder of %q: %v, %v", textOfProg(p), order, ok)
		}
		for at, name := range order {
			uses := impl.ProgUses(p, name)
			used += len(uses)
			if slices.Contains(uses, name) || !slices.IsSorted(uses) || !areUnlike(uses) {
				t.Errorf("ProgUses of %q, %q: %v", textOfProg(p), name, uses)
			}
			for _, other := range uses {
				if !slices.Contains(order[:at], other) {
					t.Errorf("ProgOrder of %q: %v, but %q uses %q", textOfProg(p), order, name, other)
				}
				for _, further := range impl.ProgUses(p, other) {
					if !slices.Contains(uses, further) {
						t.Errorf("ProgUses of %q: %q uses %v, and %q %q", textOfProg(p), name, uses, other, further)
					}
				}
			}
			checkBodyUses(t, p, name, uses)
		}
	}
	if used < 3000 {
		t.Errorf("only %d uses", used)
	}
}

// checkBodyUses wants all definitions that stand in a body among what it uses.
func checkBodyUses(t *testing.T, p impl.Prog, name string, uses []string) {
	t.Helper()
	at := slices.Index(defNames(p), name)
	for _, other := range impl.TermNames(p.Defs[at].Body) {
		if slices.Contains(defNames(p), other) && !slices.Contains(uses, other) {
			t.Errorf("ProgUses of %q: %q names %q, but uses %v", textOfProg(p), name, other, uses)
		}
	}
}

// standsIn says whether a name stands in a problem's definitions' names or in its terms.
func standsIn(p impl.Prog, name string) bool {
	names := func(term impl.Term) bool { return slices.Contains(impl.TermNames(term), name) }
	return slices.Contains(defNames(p), name) || slices.ContainsFunc(allTerms(p), names)
}

// Promise 43: ProgInline gives an ok problem with one definition less, in which its name does not stand any more.
func TestInlinesHaveOneLess(t *testing.T) {
	t.Parallel()
	s := spread{202}
	made, stood := 0, 0
	for range 1200 {
		p := someProg(&s, 1+int(s.next()%12))
		for _, name := range defNames(p) {
			got, ok := impl.ProgInline(p, name)
			if !ok {
				continue
			}
			made++
			if standsIn(impl.Prog{Rels: p.Rels}, name) {
				stood++
			}
			isOther := func(def impl.ProgDef) bool { return def.Name == name }
			left := slices.DeleteFunc(copied(p).Defs, isOther)
			if impl.ProgCode(got) != 0 || !slices.Equal(defNames(got), defNames(impl.Prog{Defs: left})) || standsIn(got, name) || !slices.Equal(got.Vars, p.Vars) || len(got.Rels) != len(p.Rels) {
				t.Errorf("ProgInline of %q, %q: %q", textOfProg(p), name, textOfProg(got))
			}
		}
	}
	if made < 2000 || stood < 1000 {
		t.Errorf("only %d problems, in %d of which it stood in relations", made, stood)
	}
}

// Promise 44: two definitions are put in, in either order, to the same problem, as long as both ways fit.
func TestInlinesInEitherOrder(t *testing.T) {
	t.Parallel()
	s := spread{203}
	both := 0
	for range 300 {
		p := someProg(&s, 1+int(s.next()%12))
		for at, one := range defNames(p) {
			first, _ := impl.ProgInline(p, one)
			for _, other := range defNames(p)[at+1:] {
				ahead, ok := impl.ProgInline(first, other)
				second, _ := impl.ProgInline(p, other)
				behind, is := impl.ProgInline(second, one)
				if !ok || !is {
					continue
				}
				both++
				if !sameProg(ahead, behind) {
					t.Errorf("%q with %q, %q put in is %q or %q", textOfProg(p), one, other, textOfProg(ahead), textOfProg(behind))
				}
			}
		}
	}
	if both < 2000 {
		t.Errorf("only %d pairs", both)
	}
}

// Promise 44: ProgFlat has no definitions, and is the same behind a ProgInline, as long as both fit.
func TestFlatsBehindInlines(t *testing.T) {
	t.Parallel()
	s := spread{204}
	both := 0
	for range 500 {
		p := someProg(&s, 1+int(s.next()%12))
		flat, ok := impl.ProgFlat(p)
		if !ok {
			continue
		}
		if len(flat.Defs) > 0 || impl.ProgCode(flat) != 0 || !slices.Equal(flat.Vars, p.Vars) {
			t.Errorf("ProgFlat of %q: %q", textOfProg(p), textOfProg(flat))
		}
		if again, is := impl.ProgFlat(flat); !is || !sameProg(again, flat) {
			t.Errorf("ProgFlat of %q: %q, %v", textOfProg(flat), textOfProg(again), is)
		}
		for _, name := range defNames(p) {
			inlined, fits := impl.ProgInline(p, name)
			behind, is := impl.ProgFlat(inlined)
			if !fits || !is {
				continue
			}
			both++
			if !sameProg(behind, flat) {
				t.Errorf("ProgFlat of %q: %q, but behind %q %q", textOfProg(p), textOfProg(flat), name, textOfProg(behind))
			}
		}
	}
	if both < 1000 {
		t.Errorf("only %d inlines", both)
	}
}

// Promise 46: a variable that is renamed, and back, is the problem.
func TestRenamesAndBack(t *testing.T) {
	t.Parallel()
	s := spread{205}
	for range 500 {
		p := someProg(&s, 1+int(s.next()%20))
		for _, old := range p.Vars {
			for _, name := range []string{"w", "c", "abcdefgh", "v9"} {
				renamed, ok := impl.ProgRename(p, old, name)
				isBack := slices.Equal(renamed.Vars, p.Vars)
				back, is := impl.ProgRename(renamed, name, old)
				if !ok || isBack || impl.ProgCode(renamed) != 0 || !is || !sameProg(back, p) || standsIn(impl.Prog{Rels: renamed.Rels}, old) {
					t.Errorf("%q with %q for %q is %q, and back %q", textOfProg(p), name, old, textOfProg(renamed), textOfProg(back))
				}
				if !slices.EqualFunc(renamed.Defs, p.Defs, sameDef) {
					t.Errorf("%q with %q for %q has other definitions", textOfProg(p), name, old)
				}
			}
		}
	}
}

// Promise 46: so with variables that are put in another order, and back.
func TestShiftsAndBack(t *testing.T) {
	t.Parallel()
	s := spread{206}
	for range 500 {
		p := someProg(&s, 1+int(s.next()%20))
		count := len(p.Vars)
		for n := range count {
			shifted, ok := impl.ProgShift(p, n)
			back, is := impl.ProgShift(shifted, (count-n)%count)
			if !ok || shifted.Vars[0] != p.Vars[n] || impl.ProgCode(shifted) != 0 || !is || !sameProg(back, p) {
				t.Errorf("%q from place %d is %q, and back %q", textOfProg(p), n, textOfProg(shifted), textOfProg(back))
			}
		}
	}
}
