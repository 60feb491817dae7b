package tests

import (
	"slices"
	"strings"
	"testing"

	"loop.example/pinfold/impl"
)

// hasWords is a search, points in words, and what FoldHas and FoldSolves tell of them.
type hasWords struct {
	foldWords
	points string
	has    bool
	solves int
}

func checkHasCases(t *testing.T, cases []hasWords) {
	t.Helper()
	for _, c := range cases {
		for _, width := range bothWidths() {
			f := mustFold(t, width, c.foldWords)
			for _, point := range strings.Split(c.points, ";") {
				if has, solves := checkHas(t, f, ratsOf(t, point)); has != c.has || solves != c.solves {
					t.Errorf("FoldHas, FoldSolves %s of %s: %v, %d", point, foldString(f), has, solves)
				}
			}
		}
	}
}

// Points in boxes that wait, that were told, in both and in neither, within them and at their bounds.
func TestPointsOfSearches(t *testing.T) {
	search := foldWords{"x + y <= 3", "-8..8 -8..8", "-8..-4 -8..8; 1..2 1..2; 2 -1", "inner 1 1; inner 0 0; inner -5 3; 5 5", 1, 17}
	checkHasCases(t, []hasWords{
		{search, "-6 0;-8 -8;-4 7;-16/3 8.25e-3;1.5 1.5;1 2;2 1;2 -1;0 0;1 1;-5 3", true, 1},
		{search, "-4 8;2 2;3/2 1.6;5 5;1.75 1.7501", true, -1},
		{search, "-3 0;0 1;1e-60 0;-8.0001 0;-3.9999 0;1e30 -1e30;2 -1.0001;0.99999999999999999999 1", false, 1},
		{search, "8 8;1e30 1;5 5.00000000000000000001;2.1 2", false, -1},
		{foldWords{"x = x", "-8..8", "", "", 1, 0}, "0;3;-8;9", false, 1},
		{atBetween(1, "x * x = 2", "-inf..inf"), "1e300;-7/5;1.4142135", true, -1},
		{atBetween(1, "sqrt(x) >= 1", "0..8"), "4;1;9/4", true, 1},
		// What is not told without rounding can't be told.
		{atBetween(1, "sqrt(x) >= 1", "0..8"), "3;2;1/2", true, 0},
		{atBetween(1, "sqrt(x) >= 1", "0..8"), "10;17.5", false, 0},
		{atBetween(1, "1 / x >= 0", "-8..8"), "0;-1", true, -1},
		{foldWords{"1 / x >= 0; y = z", "-8..8 0 0", "-8..8 0 0", "", 1, 1000000}, "1 0 0;1/7 0 0", true, 1},
	})
}

// Points with too many fractions or too few, and fractions that are not ok.
func TestPointsThatAreNone(t *testing.T) {
	for _, width := range bothWidths() {
		f := mustFold(t, width, foldWords{"x >= y", "-8..8 -8..8", "-8..8 -8..8", "inner 1 1", 1, 17})
		one := impl.FracInt(1)
		if !impl.FoldHas(f, []impl.Frac{one, one}) || impl.FoldSolves(f, []impl.Frac{one, one}) != 1 {
			t.Fatalf("the test itself has %s", foldString(f))
		}
		points := [][]impl.Frac{nil, {}, {one}, {one, one, one}, slices.Repeat([]impl.Frac{one}, 6), slices.Repeat([]impl.Frac{one}, 100)}
		for _, wrong := range wrongFracs() {
			points = append(points, []impl.Frac{wrong, one}, []impl.Frac{one, wrong}, []impl.Frac{wrong, wrong}, []impl.Frac{one, one, wrong})
		}
		for _, point := range points {
			if impl.FoldHas(f, point) || impl.FoldSolves(f, point) != 0 {
				t.Errorf("%d: FoldHas, FoldSolves of %.300v: %v, %d", width, point, impl.FoldHas(f, point), impl.FoldSolves(f, point))
			}
		}
	}
}

// Points by chance: of the first box, of boxes that wait, of boxes that were told, and of none.
func TestManyPointsOfSearches(t *testing.T) {
	t.Parallel()
	s := spread{280}
	count := map[bool]int{}
	solved := [3]int{}
	for at := range 110 {
		for _, width := range bothWidths() {
			f, ok := someFold(&s, width, at)
			if !ok {
				continue
			}
			boxes := append([]impl.Box{f.Start, someBoxOf(&s, width, len(f.Prog.Vars))}, f.Waiting...)
			for _, told := range f.Told[:min(len(f.Told), 3)] {
				boxes = append(boxes, told.Box)
			}
			for range 6 {
				has, solves := checkHas(t, f, somePointOf(&s, width, pick(&s, boxes)))
				count[has]++
				solved[1+solves]++
			}
			checkUnitsLeft(t, f)
		}
	}
	if count[false] < 100 || count[true] < 200 || solved[0] < 200 || solved[1] < 25 || solved[2] < 100 {
		t.Errorf("only %v, %v", count, solved)
	}
}

// leftCase is a search in which boxes wait, and how many units these have together.
type leftCase struct {
	start, waiting string
	left           int
}

func TestUnitsThatAreLeft(t *testing.T) {
	for _, c := range []leftCase{
		{"0..4", "", 0}, {"1", "1", 1}, {"@0..@1", "@0..@1", 3}, {"@0..@2", "@0..@2", 7}, {"@-1..@2 @5..@9", "@-1..@2 @5..@9", 11 * 15}, {"@0..@8", "@1..@3; @5; @0..@1", 7 + 1 + 3},
		{"@0..@8 @0..@8", "@0 @0..@8; @1..@3 @1..@3; @7 @7", 31 + 49 + 1},
		{"-inf..inf", "-inf..inf", 1000000000}, {"-8..8 0..1", "-1..1 0", 1000000000}, {"-8..8 0..1", "7 0..0'''", 11},
		{"@0..@250000000", "@0..@250000000", 999999999}, {"@0..@250000001", "@0..@250000001", 1000000000},
		{"@0..@250000000", "@0..@125000000; @0..@125000000", 999999998}, {"@0..@250000000", "@0..@125000000; @0..@125000000; @3", 999999999},
		{"@0..@250000000", "@0..@125000000; @0..@125000000; @3; @4", 1000000000}, {"@0..@250000000", "@0..@125000000; @0..@125000000; @3; @4; @5", 1000000000},
		{"@0..@250000000", "@0..@250000000; @3", 1000000000}, {"@0..@250000000", "@0..@125000000; @0..@100000000; @0..@9000000", 499999999 + 399999999 + 35999999},
		{"@0..@250000000 @0..@250000000", "@0..@250000000 @0..@250000000; @0..@250000000 @0", 1000000000},
	} {
		for _, width := range bothWidths() {
			f := mustFold(t, width, foldWords{"x = x", c.start, c.waiting, "", 1, 17})
			if left := checkUnitsLeft(t, f); left != c.left {
				t.Errorf("FoldLeft of %s: %d, not %d", foldString(f), left, c.left)
			}
			// What was told, and Used, bear on nothing.
			f.Told, f.Used = slices.Repeat([]impl.FoldBox{toldPoint(f)}, 100), 1000000
			if left := checkUnitsLeft(t, f); left != c.left {
				t.Errorf("FoldLeft of %s: %d, not %d", foldString(f), left, c.left)
			}
		}
	}
}

// As many boxes as may wait, all of them too great to be counted: the sum does not run over.
func TestUnitsThatAreLeftOfManyBoxes(t *testing.T) {
	f := mustFold(t, 64, atBetween(1, "x = x", "-inf..inf -inf..inf -inf..inf -inf..inf -inf..inf -inf..inf"))
	great := boxAs(t, 64, "0..1 1 1 1 1 1")
	for len(f.Waiting)+pathOf(great) <= pathOf(f.Start) {
		f.Waiting = append(f.Waiting, great)
	}
	if left := checkUnitsLeft(t, f); left != 1000000000 || len(f.Waiting) < 300 {
		t.Errorf("FoldLeft of %d boxes: %d", len(f.Waiting), left)
	}
}
