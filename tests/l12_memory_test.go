package tests

import (
	"slices"
	"testing"

	"loop.example/pinfold/impl"
)

// nodeInk is written all over what was answered.
func nodeInk() impl.TermNode { return impl.TermNode{Kind: -7, N: -7, Text: "ink"} }

// guardedTerm is a term with spare room behind its end, and a way to see whether that or the term was written to.
func guardedTerm(t impl.Term) (impl.Term, func() bool) {
	room := append(slices.Clone(t.Nodes), nodeInk(), nameNode("room"), nodeInk())
	before := slices.Clone(room)
	return impl.Term{Nodes: room[:len(t.Nodes)]}, func() bool { return slices.Equal(room, before) }
}

// guardedNames are so of names.
func guardedNames(names []string) ([]string, func() bool) {
	room := append(slices.Clone(names), "more", "room")
	before := slices.Clone(room)
	return room[:len(names)], func() bool { return slices.Equal(room, before) }
}

// No function writes into a list that it was handed, or gives back the memory of one.
func TestTermsShareNoMemory(t *testing.T) {
	terms := append(someTerms(151, 60), wrongTerms()[:40]...)
	terms = append(terms, nameOnly("x"), nameOnly("y"), chain(bareNode(impl.TermNeg), 99))
	for at, first := range terms {
		term, clean := guardedTerm(first)
		with, cleanWith := guardedTerm(terms[(at+1)%len(terms)])
		impl.TermOk(term)
		impl.TermText(term)
		impl.TermDepth(term)
		scribble(impl.TermNames(term), "ink")
		for _, list := range [][]string{nil, {"x"}, {"y", "x"}, {"x", "x", "z"}} {
			names, cleanNames := guardedNames(list)
			room := slices.Repeat([]impl.Term{with}, len(list)+2)
			put, _ := impl.TermPut(term, names, room[:len(list)])
			scribble(put.Nodes, nodeInk())
			same, _ := impl.TermPut(term, names, slices.Repeat([]impl.Term{term}, len(list)))
			scribble(same.Nodes, nodeInk())
			isRoom := !slices.ContainsFunc(room, func(other impl.Term) bool { return !sameTerm(other, with) })
			if !clean() || !cleanWith() || !cleanNames() || !isRoom {
				t.Errorf("TermPut %v, %q, %v: an argument is written to", first, list, with)
			}
		}
	}
}

// What a call answers is not kept: what is written into it is not to be seen in the next answer.
func TestTermsAreNotKept(t *testing.T) {
	want := termWith(nameNode("x"), numberNode("1"), bareNode(impl.TermAdd), callNode("f", 1))
	for range 2 {
		read, code := impl.TermRead("f(x + 1)")
		if code != 0 || !sameTerm(read, want) {
			t.Errorf("TermRead: %v, code %d", read, code)
		}
		put, ok := impl.TermPut(read, []string{"y"}, []impl.Term{read})
		names := impl.TermNames(read)
		scribble(read.Nodes, nodeInk())
		if !ok || !sameTerm(put, want) || !slices.Equal(names, []string{"f", "x"}) {
			t.Errorf("TermPut %v, %v, TermNames %q", put, ok, names)
		}
		scribble(put.Nodes, nodeInk())
		scribble(names, "ink")
	}
}
