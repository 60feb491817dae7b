package tests

import (
	"strings"
	"testing"
)

// unitCase is a search, what its next unit does, and what waits and was told then.
type unitCase struct {
	foldWords
	did                   int
	wantWaiting, wantTold string
}

// checkUnitCases wants units as they are told, at both widths.
func checkUnitCases(t *testing.T, cases []unitCase) {
	t.Helper()
	for _, c := range cases {
		for _, width := range bothWidths() {
			f := mustFold(t, width, c.foldWords)
			units := 0
			if c.did >= 1 && c.did <= 4 {
				units = 1
			}
			want := withBoxes(t, f, c.wantWaiting, c.wantTold, units)
			got, did := checkUnit(t, f)
			if did != c.did || !sameFold(got, want) {
				t.Errorf("%s: %d, %s, not %d, %s", foldString(f), did, foldString(got), c.did, foldString(want))
			}
			if !checkFold(t, got) {
				t.Errorf("not ok any more: %s", foldString(got))
			}
		}
	}
}

// atBetween is a search that has just begun.
func atBetween(between int, lines string, start string) foldWords {
	return foldWords{lines: lines, start: start, waiting: start, between: between}
}

func TestUnitsOfASearchInWhichNothingWaits(t *testing.T) {
	for _, used := range []int{0, 1, 999999, 1000000} {
		checkUnitCases(t, []unitCase{
			{foldWords{"x = 1", "0..4", "", "", 1, used}, 0, "", ""},
			{foldWords{"x = 1", "0..4", "", "inner 1", 1, used}, 0, "", "inner 1"},
			{foldWords{"x * 3 = 1; y >= -1", "0..4 -1..1", "", "1/3 0; 1/3 1; 1/3 0", 1000000, used}, 0, "", "1/3 0; 1/3 1; 1/3 0"},
		})
	}
}

// What is left is fine: it is told, as inner just if all its points are solutions.
func TestUnitsThatTell(t *testing.T) {
	checkUnitCases(t, []unitCase{
		{atBetween(1, "x >= 0", "1..1'"), 2, "", "inner 1..1'"},
		{atBetween(1, "x >= 0", "1..1''"), 2, "", "inner 1..1''"},
		{atBetween(1, "x >= 2", "1..2"), 2, "", "inner 2"},
		{atBetween(1, "x = 1", "0..4"), 2, "", "inner 1"},
		{atBetween(1, "x = 1", "-inf..inf"), 2, "", "inner 1"},
		{atBetween(1, "x * 3 = 1", "0..4"), 2, "", "1/3"},
		{atBetween(1, "x = x", "1..1'"), 2, "", "1..1'"},
		{atBetween(1, "x = 1; y = -2", "-inf..inf -4..4"), 2, "", "inner 1 -2"},
		{atBetween(1, "x <= y", "1..1' 1..1'"), 2, "", "1..1' 1..1'"},
		{atBetween(1, "x <= y", "1..1' 1'..1''"), 2, "", "inner 1..1' 1'..1''"},
		{atBetween(1, "x = y", "@-1..@1 @-1..@1"), 2, "", "@-1..@1 @-1..@1"},
		{atBetween(1, "sqrt(x) >= 0", "0..0'"), 2, "", "inner 0..0'"},
		{atBetween(1, "1 / x >= 0", "0..0'"), 2, "", "0..0'"},
		// What is less than half, but fine, does not wait again.
		{atBetween(1, "x <= y", "1..4 1'"), 2, "", "inner 1..1' 1'"},
		// Used, what was told, and what waits ahead stay as they are; the last one is taken, though others would do.
		{foldWords{"x >= -8", "-8..8", "-8..0; 3..3'; 1..1''", "inner 5; inner 4", 1, 17}, 2, "-8..0; 3..3'", "inner 5; inner 4; inner 1..1''"},
		{foldWords{"x >= 2", "-8..8", "5; 4; 3", "", 1, 0}, 2, "5; 4", "inner 3"},
		// What was told already is told again.
		{foldWords{"x >= 2", "-8..8", "3", "inner 3", 1, 0}, 2, "", "inner 3; inner 3"},
	})
}

// With Between 1 two steps are fine, with 2 three, with BoxMaxBetween 1000001.
func TestUnitsByBetween(t *testing.T) {
	checkUnitCases(t, []unitCase{
		{atBetween(1, "x = x", "@7..@9"), 2, "", "@7..@9"},
		{atBetween(1, "x = x", "@7..@10"), 4, "@8..@10; @7..@8", ""},
		{atBetween(2, "x = x", "@7..@10"), 2, "", "@7..@10"},
		{atBetween(2, "x = x", "@7..@11"), 4, "@9..@11; @7..@9", ""},
		{atBetween(1000000, "x = x", "@7..@1000008"), 2, "", "@7..@1000008"},
		{atBetween(1000000, "x = x", "@7..@1000009"), 4, "@500008..@1000009; @7..@500008", ""},
		{atBetween(999999, "x = x", "@7..@1000008"), 4, "@500007..@1000008; @7..@500007", ""},
		{atBetween(1, "x <= y", "@-1..@1 @1..@4"), 4, "@-1..@1 @2..@4; @-1..@1 @1..@2", ""},
	})
}

func TestUnitsThatFindNothing(t *testing.T) {
	checkUnitCases(t, []unitCase{
		{atBetween(1, "x^2 = -1", "-8..8"), 1, "", ""},
		{atBetween(1, "x = 9", "-8..8"), 1, "", ""},
		{atBetween(1, "x = 9", "1"), 1, "", ""},
		{atBetween(1000000, "sqrt(x) >= 0", "-8..-1"), 1, "", ""},
		{atBetween(5, "x + y = 9; x - y = 0", "0..4 0..4"), 1, "", ""},
		{foldWords{"x >= 0", "-8..8", "1..4; -4..-1", "inner 5", 1, 17}, 1, "1..4", "inner 5"},
		{foldWords{"x >= 0", "-8..8", "-1; -4..-1", "", 1, 999999}, 1, "-1", ""},
	})
}

// BoxHalved of the box that waited and what is left: that waits in its place.
func TestUnitsThatLeaveLess(t *testing.T) {
	checkUnitCases(t, []unitCase{
		// A half of the steps, one less, and one more, which is cut.
		{atBetween(1, "x <= 2", "1..4"), 3, "1..2", ""},
		{atBetween(1, "x <= y", "1..4 2\""), 3, "1..2\" 2\"", ""},
		{atBetween(1, "x <= y", "1..4 2'"), 4, "1.5..2' 2'; 1..1.5 2'", ""},
		// Of seven steps three are at most half, four are not; of eight four are, five are not.
		{atBetween(1, "x <= y", "@0..@7 @3"), 3, "@0..@3 @3", ""},
		{atBetween(1, "x <= y", "@0..@7 @4"), 4, "@2..@4 @4; @0..@2 @4", ""},
		{atBetween(1, "x <= y", "@0..@8 @4"), 3, "@0..@4 @4", ""},
		{atBetween(1, "x <= y", "@0..@8 @5"), 4, "@2..@5 @5; @0..@2 @5", ""},
		// One coordinate is enough, whichever it is; one without steps is never halved.
		{atBetween(1, "x = 1; y = y", "-8..8 -4..4"), 3, "1 -4..4", ""},
		{atBetween(1, "y = 1; x = x", "-8..8 -4..4"), 3, "-8..8 1", ""},
		{atBetween(1, "z >= 1; z <= 2", "-8..8 -4..4 1..4"), 3, "-8..8 -4..4 1..2", ""},
		{atBetween(1, "x = x", "@3 @0..@4"), 4, "@3 @2..@4; @3 @0..@2", ""},
		{foldWords{"x <= 2", "-8..8", "-8..0; 3; 1..4", "inner 1", 1, 17}, 3, "-8..0; 3; 1..2", "inner 1"},
		// A gap is let be where what is left has come down to half.
		{atBetween(1, "x * y = 1; z <= 2", "-4..4 -1..1 1..4"), 3, "-4..4 -1..1 1..2", ""},
	})
}

// No gap is told: what is left is cut in the middle of the coordinate with the most steps, the first of several; the lower part goes on.
func TestUnitsThatCut(t *testing.T) {
	checkUnitCases(t, []unitCase{
		{atBetween(1, "x = x", "-8..8"), 4, "0..8; -8..0", ""},
		{atBetween(1, "x = x", "-inf..inf"), 4, "0..inf; -inf..0", ""},
		{atBetween(1, "x = x", "1..2"), 4, "1.5..2; 1..1.5", ""},
		{atBetween(1, "x^2 = 4", "-8..8"), 4, "0..2; -2..0", ""},
		{atBetween(1, "x = x", "-1..1 -1..1"), 4, "0..1 -1..1; -1..0 -1..1", ""},
		{atBetween(1, "x = x", "-1..1 -1\"..1'"), 4, "-1..1 0..1'; -1..1 -1\"..0", ""},
		{atBetween(1, "x = x", "@0..@4 @0..@5 @1..@6"), 4, "@0..@4 @2..@5 @1..@6; @0..@4 @0..@2 @1..@6", ""},
		{foldWords{"x >= -8", "-8..8", "-8..0; 3; 1..2", "inner 1", 1, 17}, 4, "-8..0; 3; 1.5..2; 1..1.5", "inner 1"},
		// What is left is cut, not the box that waited.
		{atBetween(1, "x <= 3", "1..4"), 4, "1.75..3; 1..1.75", ""},
		{atBetween(1, "x >= y", "@-90..@90 @-71"), 4, "@9..@90 @-71; @-71..@9 @-71", ""},
	})
}

// gapWords are a search over x * y = z that is told a gap of x, of as many steps as twice z's.
func gapWords(lo string, hi string, z string) foldWords {
	return atBetween(1, "x * y = z", lo+".."+hi+" -1..1 "+z)
}

// A gap that has just an eighth, down, of the steps of its coordinate in what is left is cut out, and with one step less the widest coordinate is split; the part of fewer steps goes on, and the lower one of two that are as long.
func TestUnitsThatCutAGapOut(t *testing.T) {
	checkUnitCases(t, []unitCase{
		{gapWords("@-8", "@8", "@1"), 4, "@1..@8 -1..1 @1; @-8..@-1 -1..1 @1", ""},
		{gapWords("@-8", "@9", "@1"), 4, "@1..@9 -1..1 @1; @-8..@-1 -1..1 @1", ""},
		{gapWords("@-9", "@8", "@1"), 4, "@-9..@-1 -1..1 @1; @1..@8 -1..1 @1", ""},
		{gapWords("@-3", "@20", "@1"), 4, "@1..@20 -1..1 @1; @-3..@-1 -1..1 @1", ""},
		{gapWords("@-20", "@3", "@1"), 4, "@-20..@-1 -1..1 @1; @1..@3 -1..1 @1", ""},
		{gapWords("@-3", "@21", "@1"), 4, "@-3..@21 0..1 @1; @-3..@21 -1..0 @1", ""},
		{gapWords("@-12", "@12", "@1"), 4, "@-12..@12 0..1 @1; @-12..@12 -1..0 @1", ""},
		{gapWords("@-12", "@12", "@2"), 4, "@2..@12 -1..1 @2; @-12..@-2 -1..1 @2", ""},
		{gapWords("@-24", "@23", "@3"), 4, "@-24..@-3 -1..1 @3; @3..@23 -1..1 @3", ""},
		{gapWords("@-28", "@27", "@3"), 4, "@-28..@-3 -1..1 @3; @3..@27 -1..1 @3", ""},
		{gapWords("@-28", "@28", "@3"), 4, "@-28..@28 0..1 @3; @-28..@28 -1..0 @3", ""},
		{gapWords("@-2000", "@2000", "@250"), 4, "@250..@2000 -1..1 @250; @-2000..@-250 -1..1 @250", ""},
		{gapWords("@-2000", "@2007", "@250"), 4, "@250..@2007 -1..1 @250; @-2000..@-250 -1..1 @250", ""},
		{gapWords("@-2000", "@2008", "@250"), 4, "@-2000..@2008 0..1 @250; @-2000..@2008 -1..0 @250", ""},
		// A part may be a single float.
		{gapWords("@-1", "@8", "@1"), 4, "@1..@8 -1..1 @1; @-1 -1..1 @1", ""},
		{gapWords("@-8", "@1", "@1"), 4, "@-8..@-1 -1..1 @1; @1 -1..1 @1", ""},
		{gapWords("@-1", "@1", "@1"), 4, "@1 -1..1 @1; @-1 -1..1 @1", ""},
		// Of whole numbers, and of the other factor.
		{atBetween(1, "x * y = 1", "-4..7 -1..1"), 4, "1..7 -1..1; -4..-1 -1..1", ""},
		{atBetween(1, "x * y = 1", "-7..4 -1..1"), 4, "-7..-1 -1..1; 1..4 -1..1", ""},
		{atBetween(1, "y * x = 1", "-1..1 -4..4"), 4, "-1..1 1..4; -1..1 -4..-1", ""},
		{foldWords{"x * y = 1", "-8..8 -8..8", "3 3; -4..4 -1..1", "inner 1 1", 1, 17}, 4, "3 3; 1..4 -1..1; -4..-1 -1..1", "inner 1 1"},
	})
}

// A gap is held against what is left, not against the box that waited.
func TestUnitsThatCutAGapOutOfWhatIsLeft(t *testing.T) {
	checkUnitCases(t, []unitCase{
		{atBetween(1, "x * y = z; x <= u", "@-8..@27 -1..1 @1 @15"), 4, "@1..@15 -1..1 @1 @15; @-8..@-1 -1..1 @1 @15", ""},
		{atBetween(1, "x * y = z; x <= u", "@-8..@27 -1..1 @1 @16"), 4, "@-8..@16 0..1 @1 @16; @-8..@16 -1..0 @1 @16", ""},
	})
}

// With Used at FoldMaxUsed the search stays as it is, whatever the next box would bring.
func TestUnitsOfASearchThatIsSpent(t *testing.T) {
	full := "inner 1" + strings.Repeat("; inner 1", 99)
	var cases []unitCase
	for _, waiting := range []string{"-4..-1", "1", "0..4", "-8..1; -4..-1"} {
		for _, told := range []string{"", "inner 5", full} {
			cases = append(cases, unitCase{foldWords{"x >= 1", "-8..8", waiting, told, 1, 1000000}, 6, waiting, told})
		}
	}
	checkUnitCases(t, cases)
	// One less is enough for one unit.
	checkUnitCases(t, []unitCase{
		{foldWords{"x >= 1", "-8..8", "-4..-1", "", 1, 999999}, 1, "", ""},
		{foldWords{"x >= 1", "-8..8", "1", full[9:], 1, 999999}, 2, "", full},
		{foldWords{"x <= 2", "-8..8", "1..4", "", 1, 999999}, 3, "1..2", ""},
		{foldWords{"x >= 1", "-8..8", "1..2", full, 1, 999999}, 4, "1.5..2; 1..1.5", full},
	})
}

// With FoldMaxTold boxes told a search that would have to tell one more stays as it is, Used too; all other units go on.
func TestUnitsOfASearchThatIsFull(t *testing.T) {
	full := "inner 1" + strings.Repeat("; inner 1", 99)
	checkUnitCases(t, []unitCase{
		{foldWords{"x >= 1", "-8..8", "2", full, 1, 0}, 5, "2", full},
		{foldWords{"x >= 1", "-8..8", "2", full, 1, 999999}, 5, "2", full},
		{foldWords{"x >= 1", "-8..8", "-8..8; 3; 2..2'", full, 1, 17}, 5, "-8..8; 3; 2..2'", full},
		{foldWords{"x >= 1", "-8..8", "-8..1", full, 1, 17}, 5, "-8..1", full},
		{foldWords{"x * 3 = 1; y = y", "-8..8 1", "-8..1 1", strings.ReplaceAll(full, "inner 1", "1/3 1"), 1, 17}, 5, "-8..1 1", strings.ReplaceAll(full, "inner 1", "1/3 1")},
		{foldWords{"x >= 1", "-8..8", "2; -4..-1", full, 1, 17}, 1, "2", full},
		{foldWords{"x >= 1; x <= 2", "-8..8", "1..4", full, 1, 17}, 3, "1..2", full},
		{foldWords{"x >= 1", "-8..8", "2; 1..2", full, 1, 17}, 4, "2; 1.5..2; 1..1.5", full},
		// With one less told it is told, and the next one is not.
		{foldWords{"x >= 1", "-8..8", "3; 2", full[9:], 1, 17}, 2, "3", full[9:] + "; inner 2"},
	})
	for _, width := range bothWidths() {
		f := mustFold(t, width, foldWords{"x >= 1", "-8..8", "2; 3", full[9:], 1, 0})
		f, did := checkUnit(t, f)
		again, full := checkUnit(t, f)
		if did != 2 || full != 5 || len(f.Told) != 100 || f.Used != 1 || !sameFold(f, again) {
			t.Errorf("%d: %d, %d, %s", width, did, full, foldString(again))
		}
	}
}

// Searches by chance, unit by unit till their end.
func TestUnitsOfManySearches(t *testing.T) {
	t.Parallel()
	s := spread{276}
	count := [7]int{}
	for at := range 220 {
		for _, width := range bothWidths() {
			f, ok := someFold(&s, width, at)
			if !ok {
				continue
			}
			for range 25 {
				was, did := f, 0
				if f, did = checkUnit(t, f); did > 4 || did == 0 {
					count[did]++
					if !sameFold(f, was) {
						t.Errorf("%s is not as it was: %s", foldString(f), foldString(was))
					}
					break
				}
				count[did]++
			}
		}
	}
	for did, least := range [...]int{60, 60, 60, 60, 600, 6, 12} {
		if count[did] < least {
			t.Errorf("only %d units that answer %d", count[did], did)
		}
	}
}
