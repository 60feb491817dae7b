package tests

import (
	"math"
	"slices"
	"strings"
	"testing"

	"loop.example/pinfold/impl"
)

// okWords is a search that is ok, with all that a search can have.
func okWords() foldWords {
	return foldWords{"x * y <= 4; x >= -8", "-8..8 -8..8", "0..8 -8..8; -8..0 -7..8; 1..2 3", "inner 1 1; 2..2' 2..2'; inner -8..-8'' 2; 8 8; -8 -8", 1, 17}
}

// checkFoldIs wants of a search that something is changed in that it is ok, or is not.
func checkFoldIs(t *testing.T, what string, width int, base foldWords, ok bool, change func(f *impl.Fold)) {
	t.Helper()
	f := copiedFold(mustFold(t, width, base))
	change(&f)
	if is := impl.FoldOk(f); is != ok || isFoldBy(f) != ok {
		t.Errorf("%d: FoldOk with %s: %v, %v: %s", width, what, is, isFoldBy(f), foldString(f))
	}
	if !ok {
		checkNoFold(t, f)
	}
}

// checkFoldsAre wants of searches in words that they are ok, or are not.
func checkFoldsAre(t *testing.T, ok bool, cases []foldWords) {
	t.Helper()
	for _, c := range cases {
		for _, width := range bothWidths() {
			f := foldAs(t, width, c)
			if is := impl.FoldOk(f); is != ok || isFoldBy(f) != ok {
				t.Errorf("%d: FoldOk of %s: %v, %v", width, foldString(f), is, isFoldBy(f))
			}
			if !ok {
				checkNoFold(t, f)
			}
		}
	}
}

func TestSearchesThatAreOk(t *testing.T) {
	checkFoldsAre(t, true, []foldWords{
		okWords(),
		atBetween(1, "x = 1", "0..4"),
		atBetween(1000000, "x = 1", "-inf..inf"),
		{"x = 1", "0..4", "", "", 1, 0},
		{"x = 1", "1", "1", "inner 1", 1, 0},
		{"x = 1", "1", "1", "inner 1", 1, 1000000},
		{"1 = 2", "-inf..inf -inf..inf -inf..inf 0 1 2", "-inf..0 -inf..inf -inf..inf 0 1 2", "", 1, 3},
		// Boxes that wait need not be parts of one another, and may be told, too; those that were told may be no solutions.
		{"x >= 0", "-8..8", "1..2; 1..2; 1..2", "inner 1; inner 1; -1; inner 1..1'", 1, 3},
	})
}

func TestSearchesOfWrongNumbers(t *testing.T) {
	for _, width := range bothWidths() {
		for _, wrong := range wrongWidths() {
			checkFoldIs(t, "a width that is none", width, okWords(), false, func(f *impl.Fold) { f.Width = wrong })
			checkFoldIs(t, "a width that is none", width, atBetween(1, "x = 1", "0"), false, func(f *impl.Fold) { f.Width = wrong })
		}
		for between, ok := range map[int]bool{math.MinInt: false, -1: false, 0: false, 1: true, 2: true, 999999: true, 1000000: true, 1000001: false, math.MaxInt: false} {
			checkFoldIs(t, "another Between", width, okWords(), ok, func(f *impl.Fold) { f.Between = between })
		}
		for used, ok := range map[int]bool{math.MinInt: false, -1: false, 0: true, 1: true, 999999: true, 1000000: true, 1000001: false, math.MaxInt: false} {
			checkFoldIs(t, "another Used", width, okWords(), ok, func(f *impl.Fold) { f.Used = used })
		}
	}
	checkFoldIs(t, "narrow floats", 64, okWords(), false, func(f *impl.Fold) { f.Width = 32 })
	checkFoldIs(t, "wide floats of other values", 32, atBetween(1, "x = 1", "0..4"), true, func(f *impl.Fold) { f.Width = 64 })
}

// First boxes that are not ok, and that are so, but with other boxes.
func TestSearchesOfWrongFirstBoxes(t *testing.T) {
	for _, width := range bothWidths() {
		for at := range 2 {
			for _, wrong := range wrongPairs(width) {
				checkFoldIs(t, "a wrong first box", width, okWords(), false, func(f *impl.Fold) { f.Start.Pairs[at] = wrong })
				checkFoldIs(t, "a wrong first box alone", width, okWords(), false, func(f *impl.Fold) { f.Start.Pairs[at], f.Waiting, f.Told = wrong, nil, nil })
			}
			checkFoldIs(t, "a first box with a pair less", width, okWords(), false, func(f *impl.Fold) { f.Start.Pairs = slices.Delete(f.Start.Pairs, at, at+1) })
			checkFoldIs(t, "a lesser first box", width, okWords(), false, func(f *impl.Fold) { f.Start.Pairs[at].Lo++ })
			checkFoldIs(t, "a greater first box", width, okWords(), true, func(f *impl.Fold) { f.Start.Pairs[at].Hi += 5 })
		}
		for _, wrong := range append(wrongBoxes(width), boxAs(t, width, "0..1"), boxAs(t, width, "0..1 0..1 0..1"), boxAs(t, width, "1 1 1 1 1 1")) {
			checkFoldIs(t, "another first box", width, okWords(), false, func(f *impl.Fold) { f.Start, f.Waiting, f.Told = wrong, nil, nil })
		}
	}
}

func TestSearchesOfWrongProblems(t *testing.T) {
	for _, width := range bothWidths() {
		for _, c := range []struct {
			text string
			ok   bool
		}{
			{"var x\nvar y\nx * y <= 4\nx >= -8\n", true}, {"var u\nvar v\nu * v <= 4\nu >= -8\n", true}, {"var x\nx <= 4\n", false}, {"var x\nvar y\nvar z\nx * y <= 4\n", false},
			{"def f = 1\nvar x\nvar y\nx * y <= f + f + f + f\nx >= -8\n", true}, {"var y\n" + doubledProblem(), false}, {"var y\n" + ofMany(), false},
			{"var x\nvar y\nx * y <= 4\nx >= -8\n0<=" + summed(50, 7) + "\n", true}, {"var x\nvar y\nx * y <= 4\nx >= -8\n" + summed(50, 9) + "<=" + summed(50, 7) + "\n", true}, {"var x\nvar y\nx * y <= 4\nx >= -8\n" + summed(50, 10) + "<=" + summed(50, 7) + "\n", false},
			{"var y\n" + longAsWritten(7994), true}, {"var y\n" + longAsWritten(7995), false},
		} {
			checkFoldIs(t, "another problem", width, okWords(), c.ok, func(f *impl.Fold) {
				f.Prog = mustProg(t, c.text)
				g, ok := readableBy(f.Prog)
				for at, told := range f.Told {
					f.Told[at].Inner = ok && g.Vars == 2 && sureBy(padOver(width, g, told.Box))
				}
			})
		}
		base := mustProg(t, textOver("x y", "x * y <= 4"))
		for at, wrong := range append(wrongTerms(), impl.Term{}) {
			checkFoldIs(t, "a wrong term", width, okWords(), false, func(f *impl.Fold) { f.Prog.Rels[at%2].Left = wrong })
		}
		for _, wrong := range []impl.Prog{{}, {Vars: base.Vars}, {Rels: base.Rels}, {Vars: []string{"x", "x"}, Rels: base.Rels}, {Vars: []string{"x", "if~"}, Rels: base.Rels}, {Vars: base.Vars, Rels: slices.Repeat(base.Rels, 13)}, {Vars: numbered("v", 7), Rels: base.Rels}, {Vars: base.Vars, Rels: []impl.ProgRel{{Kind: 4, Left: base.Rels[0].Left, Right: base.Rels[0].Right}}}} {
			checkFoldIs(t, "a wrong problem", width, okWords(), false, func(f *impl.Fold) { f.Prog = wrong })
		}
	}
}

// Boxes that wait: a place and BoxPath are just BoxPath of the first box, or one more.
func TestSearchesOfWaitingBoxesByTheirPlaces(t *testing.T) {
	points := func(count int) string { return strings.TrimPrefix(strings.Repeat("; @5", count), "; ") }
	var good, bad []foldWords
	add := func(list *[]foldWords, start string, waiting string) {
		*list = append(*list, foldWords{"x = x", start, strings.TrimPrefix(waiting, "; "), "", 1, 0})
	}
	// The path of @1..@8 is four: three halvings of seven steps, and one.
	add(&good, "@1..@8", "@1..@8")
	add(&bad, "@1..@8", "@5; @1..@8")
	add(&good, "@1..@8", "@5; @1..@4")
	add(&good, "@1..@8", "@1..@8; @5..@8; @5..@6; @6")
	add(&bad, "@1..@8", "@1..@8; @4..@8; @5..@6; @6")
	add(&bad, "@1..@8", "@1..@8; @5..@8; @5..@7; @6")
	add(&bad, "@1..@8", "@1..@8; @5..@8; @5..@6; @5..@6")
	add(&bad, "@1..@8", "@1..@8; @5..@8; @5..@6; @6; @6")
	add(&good, "@1..@8", points(4))
	add(&bad, "@1..@8", points(5))
	add(&good, "@0..@8", points(5))
	add(&good, "@0..@8", points(4)+"; @8")
	add(&bad, "@0..@8", points(4)+"; @7..@8")
	add(&good, "@0..@8", points(1)+"; @1..@8")
	add(&bad, "@0..@8", points(1)+"; @0..@8")
	add(&good, "@5", points(1))
	add(&bad, "@5", points(2))
	add(&good, "@0..@4 @0..@1", "@0..@4 @0..@1; @0..@2 @0..@1; @0..@1 @0..@1; @0..@1 @0; @0 @0")
	add(&bad, "@0..@4 @0..@1", "@0..@4 @0..@1; @0..@2 @0..@1; @0..@1 @0..@1; @0..@1 @0..@1")
	checkFoldsAre(t, true, good)
	checkFoldsAre(t, false, bad)
}

// As many boxes as may wait at all, among wide floats, and as many as may wait among narrow ones.
func TestSearchesOfAsManyWaitingBoxesAsMayBe(t *testing.T) {
	for vars := 1; vars <= 6; vars++ {
		for _, width := range bothWidths() {
			start := strings.TrimSpace(strings.Repeat("-inf..inf ", vars))
			f := mustFold(t, width, foldWords{"x = x", start, "", "", 1, 0})
			point := boxAs(t, width, strings.TrimSpace(strings.Repeat("1 ", vars)))
			most := vars*width + 1
			for count, ok := range map[int]bool{most - 1: true, most: true, most + 1: false, most + 2: false, 386: most > 386, 1000: false} {
				f.Waiting = slices.Repeat([]impl.Box{point}, count)
				if is := impl.FoldOk(f); is != ok || isFoldBy(f) != ok {
					t.Errorf("%d: FoldOk with %d boxes of %d pairs that wait: %v", width, count, vars, is)
				}
				if !ok {
					checkNoFold(t, f)
				}
			}
			// Just as many on the way of a box that is halved again and again.
			f.Waiting = nil
			for b := cloned(f.Start); ; {
				f.Waiting = append(f.Waiting, b)
				widest := impl.BoxWidest(width, b)
				if stepsOf(b.Pairs[widest]).Sign() == 0 {
					break
				}
				b = withPair(b, widest, impl.Pair{Lo: b.Pairs[widest].Lo, Hi: impl.BitMiddle(b.Pairs[widest].Lo, b.Pairs[widest].Hi)})
				if b.Pairs[widest].Hi == -topOf(width) {
					break
				}
			}
			if len(f.Waiting) < most-vars || !checkFold(t, f) {
				t.Errorf("%d: %d boxes of %d pairs wait, of %d", width, len(f.Waiting), vars, most)
			}
		}
	}
}

// Boxes that wait and are not ok, of another width or another count of pairs, or not within the first one.
func TestSearchesOfWrongWaitingBoxes(t *testing.T) {
	for _, width := range bothWidths() {
		count := len(mustFold(t, width, okWords()).Waiting)
		for at := range count {
			for pair := range 2 {
				for _, wrong := range wrongPairs(width) {
					checkFoldIs(t, "a wrong box that waits", width, okWords(), false, func(f *impl.Fold) { f.Waiting[at].Pairs[pair] = wrong })
				}
				for _, beyond := range []string{"-8\"..0", "0..8'", "-inf..inf", "-9", "9..10", "8..inf"} {
					checkFoldIs(t, "a box that waits beyond the first one", width, okWords(), false, func(f *impl.Fold) { f.Waiting[at].Pairs[pair] = boxAs(t, width, beyond).Pairs[0] })
				}
				checkFoldIs(t, "a box that waits with a pair less", width, okWords(), false, func(f *impl.Fold) {
					f.Waiting[at].Pairs = slices.Delete(f.Waiting[at].Pairs, pair, pair+1)
				})
				checkFoldIs(t, "a lesser box that waits", width, okWords(), true, func(f *impl.Fold) { f.Waiting[at].Pairs[pair].Lo = f.Waiting[at].Pairs[pair].Hi })
			}
			checkFoldIs(t, "a box that waits with a pair more", width, okWords(), false, func(f *impl.Fold) {
				f.Waiting[at].Pairs = append(f.Waiting[at].Pairs, f.Waiting[at].Pairs[0])
			})
			checkFoldIs(t, "no box that waits", width, okWords(), false, func(f *impl.Fold) { f.Waiting[at] = impl.Box{} })
		}
		checkFoldIs(t, "no box that waits", width, okWords(), false, func(f *impl.Fold) { f.Waiting = append(f.Waiting, impl.Box{}) })
		checkFoldIs(t, "a box more that waits", width, okWords(), true, func(f *impl.Fold) { f.Waiting = append(f.Waiting, boxAs(t, width, "1 1")) })
	}
	checkFoldIs(t, "a wide box that waits", 32, okWords(), false, func(f *impl.Fold) { f.Waiting[2] = boxAs(t, 64, "1..2 3") })
}

// Boxes that were told and are not ok, not fine, of another width, not within the first one, or inner where they are not, or not inner where they are; and more of them than may be.
func TestSearchesOfWrongToldBoxes(t *testing.T) {
	for _, width := range bothWidths() {
		for at := range mustFold(t, width, okWords()).Told {
			checkFoldIs(t, "another Inner", width, okWords(), false, func(f *impl.Fold) { f.Told[at].Inner = !f.Told[at].Inner })
			for pair := range 2 {
				for _, wrong := range wrongPairs(width) {
					checkFoldIs(t, "a wrong box that was told", width, okWords(), false, func(f *impl.Fold) { f.Told[at].Box.Pairs[pair] = wrong })
				}
			}
			checkFoldIs(t, "no box that was told", width, okWords(), false, func(f *impl.Fold) { f.Told[at].Box = impl.Box{} })
			checkFoldIs(t, "nothing told", width, okWords(), false, func(f *impl.Fold) { f.Told[at] = impl.FoldBox{} })
			checkFoldIs(t, "a told box with a pair more", width, okWords(), false, func(f *impl.Fold) {
				f.Told[at].Box.Pairs = append(f.Told[at].Box.Pairs, f.Told[at].Box.Pairs[0])
			})
		}
	}
	checkFoldIs(t, "a wide box that was told", 32, okWords(), false, func(f *impl.Fold) { f.Told[0].Box = boxAs(t, 64, "1 1") })
	inner := "inner 1" + strings.Repeat("; inner 1", 98)
	told := func(between int, told string) foldWords {
		return foldWords{"x >= 0", "-8..8", "1..2", told, between, 3}
	}
	checkFoldsAre(t, true, []foldWords{
		told(1, inner), told(1, inner+"; inner 2"), told(1, inner+"; -1"),
		told(1, "inner 1..1''"), told(2, "inner 1..1'''"), told(3, "inner 1..1''''"), told(1, "-0\"..0'"), told(1, "inner 0..0''"), told(1, "-8..-8''; inner 8\"..8"),
		told(1000000, "inner @0..@1000001"), told(999999, "inner @0..@1000000"),
	})
	checkFoldsAre(t, false, []foldWords{
		told(1, inner+"; inner 2; inner 3"), told(1, inner+"; "+inner), told(1, inner+"; 2"),
		told(1, "inner 1..1'''"), told(2, "inner 1..1''''"), told(3, "inner 1; inner 1..1'''''"), told(1, "-0''..0''"), told(1, "0..0'''"), told(1, "inner 8..8'"), told(1, "-8\"..-8"), told(1, "inner 9"),
		told(1000000, "inner @0..@1000002"), told(999999, "inner @0..@1000001"), told(1, "1"), told(1, "inner -1"), told(1, "inner -0\"..0"),
	})
}

// changedFold is a search with something changed in it: often it is not ok any more.
func changedFold(s *spread, f impl.Fold) impl.Fold {
	f = copiedFold(f)
	box := func() *impl.Box {
		at := int(s.next() % 64)
		switch {
		case at%3 == 0 && len(f.Waiting) > 0:
			return &f.Waiting[at%len(f.Waiting)]
		case at%3 == 1 && len(f.Told) > 0:
			return &f.Told[at%len(f.Told)].Box
		}
		return &f.Start
	}
	b := box()
	at := int(s.next() % uint64(len(b.Pairs)))
	switch s.next() % 12 {
	case 0:
		f.Width = pick(s, append(wrongWidths(), 32, 64))
	case 1:
		f.Between = pick(s, []int{0, 1, 2, 1000000, 1000001, -1})
	case 2:
		f.Used = pick(s, []int{0, -1, 1000000, 1000001})
	case 3:
		change(s, &f.Prog)
	case 4:
		b.Pairs = slices.Delete(b.Pairs, at, at+1)
	case 5:
		b.Pairs = append(b.Pairs, b.Pairs[at])
	case 6:
		b.Pairs[at].Lo += int(s.next()%5) - 2
	case 7:
		b.Pairs[at].Hi += int(s.next()%5) - 2
	case 8:
		*b = *box()
	case 9:
		b.Pairs[at] = somePair(s, f.Width)
	case 10:
		f.Waiting = append(f.Waiting, slices.Repeat([]impl.Box{cloned(*b)}, int(s.next()%40))...)
	case 11:
		if len(f.Told) > 0 {
			f.Told[at%len(f.Told)].Inner = s.next()%2 == 0
		}
	}
	return f
}

// Searches by chance, with something changed in them.
func TestManyChangedSearches(t *testing.T) {
	t.Parallel()
	s := spread{278}
	good, wrong := 0, 0
	for at := range 260 {
		for _, width := range bothWidths() {
			f, ok := someFold(&s, width, at)
			if !ok {
				continue
			}
			if !checkFold(t, f) {
				t.Errorf("the search %s is not ok", foldString(f))
			}
			f = changedFold(&s, f)
			if checkFold(t, f) {
				good++
				checkUnit(t, f)
			} else {
				wrong++
				checkNoFold(t, f)
			}
		}
	}
	if good < 100 || wrong < 100 {
		t.Errorf("only %d good ones, %d wrong ones", good, wrong)
	}
}

// The nothing of its type, and what has hardly more.
func TestNothingIsNoSearch(t *testing.T) {
	checkNoFold(t, impl.Fold{})
	for _, width := range append(wrongWidths(), bothWidths()...) {
		checkNoFold(t, impl.Fold{Width: width})
		checkNoFold(t, impl.Fold{Width: width, Between: 1, Start: impl.Box{Pairs: []impl.Pair{{}}}})
		checkNoFold(t, impl.Fold{Width: width, Between: 1, Prog: mustProg(t, "var x\nx = 1\n")})
		checkNoFold(t, impl.Fold{Width: width, Prog: mustProg(t, "var x\nx = 1\n"), Start: impl.Box{Pairs: []impl.Pair{{}}}, Waiting: []impl.Box{{Pairs: []impl.Pair{{}}}}})
		checkNoFold(t, impl.Fold{Width: width, Between: 1, Waiting: make([]impl.Box, 3), Told: make([]impl.FoldBox, 3)})
	}
}
