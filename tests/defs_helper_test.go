package tests

import (
	"slices"
	"strings"
	"testing"

	"loop.example/pinfold/impl"
)

// Definitions are held here against tables of who uses whom by places, and against branches that are grown anew; what is wanted of a case is written out as a text, too.

// orderOf is the order that an ok problem's definitions should be told in.
func orderOf(p impl.Prog) []string {
	uses := usesTable(p)
	told := make([]bool, len(p.Defs))
	var names []string
	for len(names) < len(p.Defs) {
		for at := range p.Defs {
			isFree := !told[at]
			for other := range p.Defs {
				isFree = isFree && (told[other] || !uses[at][other])
			}
			if isFree {
				told[at] = true
				names = append(names, p.Defs[at].Name)
				break
			}
		}
	}
	return names
}

// usesOf are the names of what a definition of an ok problem should use.
func usesOf(p impl.Prog, name string) []string {
	at := slices.Index(defNames(p), name)
	if at < 0 {
		return nil
	}
	var names []string
	for other, is := range usesTable(p)[at] {
		if is {
			names = append(names, p.Defs[other].Name)
		}
	}
	slices.Sort(names)
	return names
}

func (b branch) size() int {
	count := 1
	for _, part := range b.parts {
		count += part.size()
	}
	return count
}

// unfolded is a branch with a body in the places of a definition's uses; false, if a part of it would have more than 100 nodes.
func (b branch) unfolded(def impl.ProgDef) (branch, bool) {
	out := branch{node: b.node}
	for _, part := range b.parts {
		made, ok := part.unfolded(def)
		if !ok {
			return branch{}, false
		}
		out.parts = append(out.parts, made)
	}
	if b.node == nameNode(def.Name) || b.node == callNode(def.Name, len(def.Params)) {
		body, _ := branchOf(def.Body)
		out = body.put(def.Params, out.parts)
	}
	return out, out.size() <= 100
}

// inlinedProg is what ProgInline should make of an ok problem.
func inlinedProg(p impl.Prog, name string) (impl.Prog, bool) {
	at := slices.Index(defNames(p), name)
	if at < 0 {
		return impl.Prog{}, false
	}
	fits := true
	unfold := func(t impl.Term) impl.Term {
		grown, _ := branchOf(t)
		made, ok := grown.unfolded(p.Defs[at])
		fits = fits && ok
		return made.term()
	}
	out := impl.Prog{Vars: p.Vars}
	for other, def := range p.Defs {
		if other != at {
			out.Defs = append(out.Defs, impl.ProgDef{Name: def.Name, Params: def.Params, Body: unfold(def.Body)})
		}
	}
	for _, rel := range p.Rels {
		out.Rels = append(out.Rels, impl.ProgRel{Kind: rel.Kind, Left: unfold(rel.Left), Right: unfold(rel.Right)})
	}
	if !fits {
		return impl.Prog{}, false
	}
	return out, true
}

// flatProg is what ProgFlat should make of an ok problem.
func flatProg(p impl.Prog) (impl.Prog, bool) {
	out, ok := p, true
	for _, name := range orderOf(p) {
		if ok {
			out, ok = inlinedProg(out, name)
		}
	}
	return out, ok
}

// renamedProg is what ProgRename should make of an ok problem.
func renamedProg(p impl.Prog, old string, name string) (impl.Prog, bool) {
	if !slices.Contains(p.Vars, old) || !isName(name) || slices.Contains(append(defNames(p), p.Vars...), name) {
		return impl.Prog{}, false
	}
	out := copied(p)
	out.Vars[slices.Index(out.Vars, old)] = name
	for _, rel := range out.Rels {
		for _, nodes := range [][]impl.TermNode{rel.Left.Nodes, rel.Right.Nodes} {
			for at, node := range nodes {
				if node == nameNode(old) {
					nodes[at].Text = name
				}
			}
		}
	}
	return out, true
}

// shiftedProg is what ProgShift should make of an ok problem.
func shiftedProg(p impl.Prog, n int) (impl.Prog, bool) {
	if n < 0 || n >= len(p.Vars) {
		return impl.Prog{}, false
	}
	out := copied(p)
	for at := range p.Vars {
		out.Vars[at] = p.Vars[(n+at)%len(p.Vars)]
	}
	return out, true
}

// checkMade holds a problem that was answered against the one that is wanted, which is nothing beside a false.
func checkMade(t *testing.T, what string, p impl.Prog, got impl.Prog, ok bool, want impl.Prog, wantOk bool) {
	t.Helper()
	if ok != wantOk || !sameProg(got, want) {
		t.Errorf("%s of %q: %q, %v, not %q, %v", what, textOfProg(p), textOfProg(got), ok, textOfProg(want), wantOk)
	}
}

func checkDefOrder(t *testing.T, p impl.Prog) []string {
	t.Helper()
	got, ok := impl.ProgOrder(p)
	if want := orderOf(p); !ok || !slices.Equal(got, want) {
		t.Errorf("ProgOrder of %q: %v, %v, not %v", textOfProg(p), got, ok, want)
	}
	return got
}

func checkUses(t *testing.T, p impl.Prog, name string) []string {
	t.Helper()
	got := impl.ProgUses(p, name)
	if want := usesOf(p, name); !slices.Equal(got, want) {
		t.Errorf("ProgUses of %q, %q: %v, not %v", textOfProg(p), name, got, want)
	}
	return got
}

func checkInline(t *testing.T, p impl.Prog, name string) (impl.Prog, bool) {
	t.Helper()
	got, ok := impl.ProgInline(p, name)
	want, wantOk := inlinedProg(p, name)
	checkMade(t, "ProgInline "+name, p, got, ok, want, wantOk)
	return got, ok
}

func checkFlat(t *testing.T, p impl.Prog) (impl.Prog, bool) {
	t.Helper()
	got, ok := impl.ProgFlat(p)
	want, wantOk := flatProg(p)
	if !wantOk {
		want = impl.Prog{}
	}
	checkMade(t, "ProgFlat", p, got, ok, want, wantOk)
	return got, ok
}

func checkRename(t *testing.T, p impl.Prog, old string, name string) (impl.Prog, bool) {
	t.Helper()
	got, ok := impl.ProgRename(p, old, name)
	want, wantOk := renamedProg(p, old, name)
	checkMade(t, "ProgRename "+old+" "+name, p, got, ok, want, wantOk)
	return got, ok
}

func checkShift(t *testing.T, p impl.Prog, n int) (impl.Prog, bool) {
	t.Helper()
	got, ok := impl.ProgShift(p, n)
	want, wantOk := shiftedProg(p, n)
	checkMade(t, "ProgShift", p, got, ok, want, wantOk)
	return got, ok
}

// textWith is a text of these lines.
func textWith(lines ...string) string { return strings.Join(lines, "\n") + "\n" }
