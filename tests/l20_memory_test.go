package tests

import (
	"slices"
	"testing"

	"loop.example/pinfold/impl"
)

// boxesOf are all boxes of a search, where they stand.
func boxesOf(f impl.Fold) []impl.Box {
	out := append([]impl.Box{f.Start}, f.Waiting...)
	for _, told := range f.Told {
		out = append(out, told.Box)
	}
	return out
}

// guardedFold is a search with spare room behind all its lists, and a way to see whether that or the search was written to.
func guardedFold(f impl.Fold) (impl.Fold, func() bool) {
	prog, cleanProg := guardedProg(f.Prog)
	cleans := []func() bool{cleanProg}
	guard := func(b impl.Box) impl.Box {
		out, clean := guarded(b.Pairs...)
		cleans = append(cleans, clean)
		return out
	}
	ink := impl.Box{Pairs: []impl.Pair{{Lo: 77, Hi: 78}}}
	var waiting []impl.Box
	var told []impl.FoldBox
	for _, b := range append(slices.Clone(f.Waiting), ink, ink, ink) {
		waiting = append(waiting, guard(b))
	}
	for _, one := range append(slices.Clone(f.Told), impl.FoldBox{Box: ink}, impl.FoldBox{Inner: true, Box: ink}) {
		told = append(told, impl.FoldBox{Inner: one.Inner, Box: guard(one.Box)})
	}
	beforeWaiting, beforeTold := slices.Clone(waiting), slices.Clone(told)
	out := impl.Fold{Width: f.Width, Between: f.Between, Used: f.Used, Prog: prog, Start: guard(f.Start), Waiting: waiting[:len(f.Waiting)], Told: told[:len(f.Told)]}
	return out, func() bool {
		written := func(clean func() bool) bool { return !clean() }
		return !slices.ContainsFunc(cleans, written) && slices.EqualFunc(waiting, beforeWaiting, sameBox) && slices.EqualFunc(told, beforeTold, sameTold)
	}
}

// inkFold writes all over a search, box by box, and sees that no other box of it changes.
func inkFold(t *testing.T, f impl.Fold) {
	t.Helper()
	boxes := boxesOf(f)
	var before []impl.Box
	for _, b := range boxes {
		before = append(before, cloned(b))
	}
	for at, b := range boxes {
		inkBox(b)
		if !slices.EqualFunc(boxes[at+1:], before[at+1:], sameBox) {
			t.Fatalf("two lists share memory: %s", foldString(f))
		}
	}
	inkedAll(t, f.Prog)
	scribble(f.Waiting, impl.Box{})
	scribble(f.Told, impl.FoldBox{Inner: true})
}

// answersOf are all searches that are made of one.
func answersOf(f impl.Fold, fuels ...int) []impl.Fold {
	unit, _ := impl.FoldUnit(f)
	out := []impl.Fold{unit}
	for _, fuel := range fuels {
		run, _ := impl.FoldRun(f, fuel)
		out = append(out, run)
	}
	return out
}

// checkFoldMemory asks twice for what a search comes to, writes over the first answers, and then over what was handed in, and wants the second answers as they were.
func checkFoldMemory(t *testing.T, f impl.Fold, fuels ...int) {
	t.Helper()
	handed, clean := guardedFold(f)
	point, cleanPoint := guardedPoint([]impl.Frac{impl.FracInt(1), impl.FracInt(0)}[:min(len(f.Start.Pairs), 2)])
	var wanted []impl.Fold
	for _, answer := range answersOf(f, fuels...) {
		wanted = append(wanted, copiedFold(answer))
	}
	tells := func() (bool, bool, int, int) {
		return impl.FoldOk(handed), impl.FoldHas(handed, point), impl.FoldSolves(handed, point), impl.FoldLeft(handed)
	}
	ok, has, solves, left := tells()
	for at, answer := range answersOf(handed, fuels...) {
		if !sameFold(answer, wanted[at]) {
			t.Errorf("two answers for %s: %s, %s", foldString(f), foldString(wanted[at]), foldString(answer))
		}
		inkFold(t, answer)
	}
	if !clean() || !cleanPoint() {
		t.Fatalf("%s is written to", foldString(f))
	}
	if againOk, againHas, againSolves, againLeft := tells(); againOk != ok || againHas != has || againSolves != solves || againLeft != left {
		t.Errorf("%s tells something else", foldString(f))
	}
	second := answersOf(handed, fuels...)
	inkFold(t, handed)
	for at, answer := range second {
		if !sameFold(answer, wanted[at]) {
			t.Errorf("what was answered of %s has changed: %s", foldString(f), foldString(answer))
		}
		inkFold(t, answer)
	}
}

// Answers are new memory, also where a search stays as it is; nothing is written into what was handed in, or behind its end, and nothing is kept.
func TestSearchesShareNoMemory(t *testing.T) {
	t.Parallel()
	s := spread{291}
	for at := range 40 {
		for _, width := range bothWidths() {
			if f, ok := someFold(&s, width, at); ok {
				checkFoldMemory(t, f, 1, 9)
				checkFoldMemory(t, changedFold(&s, f), 2)
			}
			if f, ok := smallFold(&s, width, at); ok {
				checkFoldMemory(t, f, 3, 100)
			}
		}
	}
	for _, width := range bothWidths() {
		checkFoldMemory(t, mustFold(t, width, okWords()), 1, 3)
		checkFoldMemory(t, mustFold(t, width, foldWords{"x = 1", "0..4", "", "inner 1; 2", 1, 17}), 1)
		checkFoldMemory(t, mustFold(t, width, foldWords{"x = 1", "0..4", "0..4; 2", "inner 1; 2", 1, 1000000}), 1)
		checkFoldMemory(t, mustFold(t, width, foldWords{"x = 1", "0..4", "0..2; 1", "inner 1; 3", 1, 17}), 1, 2, 3)
	}
	checkFoldMemory(t, impl.Fold{}, 1)
}

// A search that was opened shares no memory with the patterns, with another one, or within itself.
func TestOpenedSearchesShareNoMemory(t *testing.T) {
	for _, width := range bothWidths() {
		text := textWith("def f(a, b) = a * b", "var x", "var y", "f(x, y) = 2", "x <= y + 1")
		room := append(impl.BoxBits(width, boxAs(t, width, "0..4 -8..8")), 77, 78)
		before := slices.Clone(room)
		first, _ := impl.FoldOpen(text, width, room[:4], 5)
		second, code := impl.FoldOpen(text, width, room[:4], 5)
		want := copiedFold(second)
		inkFold(t, first)
		if code != 0 || !slices.Equal(room, before) || !sameFold(second, want) {
			t.Errorf("%d: %s, not %s; %v", width, foldString(second), foldString(want), room)
		}
		scribble(room, 99)
		if !sameFold(second, want) {
			t.Errorf("%d: the search changed with its patterns: %s", width, foldString(second))
		}
		inkFold(t, second)
	}
}

// A search that was handed in can be used again, with the same answer, also after others were gone on with.
func TestSearchesThatAreUsedAgain(t *testing.T) {
	for _, width := range bothWidths() {
		f := mustFold(t, width, atBetween(1000, "x^2 + y^2 = 25; x * y = 12", "-8..8 -8..8"))
		for range 12 {
			kept := copiedFold(f)
			one, did := impl.FoldUnit(f)
			run, answer := impl.FoldRun(f, 7)
			further, _ := impl.FoldRun(one, 6)
			impl.FoldRun(run, 100)
			again, againDid := impl.FoldUnit(f)
			runAgain, answerAgain := impl.FoldRun(f, 7)
			if did != againDid || answer != answerAgain || !sameFold(one, again) || !sameFold(run, runAgain) || !sameFold(further, run) || !sameFold(f, kept) {
				t.Fatalf("%d: %s is not used again with the same answer", width, foldString(kept))
			}
			f = run
		}
	}
}
