package tests

import (
	"math"
	"runtime"
	"slices"
	"strconv"
	"strings"
	"testing"

	"loop.example/pinfold/impl"
)

// runCase is a search, its fuel, what the run answers, how many units it takes, and what waits and was told then.
type runCase struct {
	foldWords
	fuel, answer, units   int
	wantWaiting, wantTold string
}

// checkRunCases wants runs as they are told, at both widths.
func checkRunCases(t *testing.T, cases []runCase) {
	t.Helper()
	for _, c := range cases {
		for _, width := range bothWidths() {
			f := mustFold(t, width, c.foldWords)
			want := withBoxes(t, f, c.wantWaiting, c.wantTold, c.units)
			got, answer := checkRun(t, f, c.fuel)
			if answer != c.answer || !sameFold(got, want) {
				t.Errorf("FoldRun %d of %s: %d, %s, not %d, %s", c.fuel, foldString(f), answer, foldString(got), c.answer, foldString(want))
			}
			if !checkFold(t, got) {
				t.Errorf("not ok any more: %s", foldString(got))
			}
		}
	}
}

// Fuel that is just enough, less and more; below 1 it counts as 1.
func TestRunsByTheirFuel(t *testing.T) {
	square := atBetween(1, "x^2 = 4", "-8..8")
	for fuel, want := range map[int]runCase{
		math.MinInt: {square, 0, 3, 1, "0..2; -2..0", ""}, -1: {square, 0, 3, 1, "0..2; -2..0", ""}, 0: {square, 0, 3, 1, "0..2; -2..0", ""}, 1: {square, 0, 3, 1, "0..2; -2..0", ""},
		2: {square, 0, 3, 2, "0..2", "inner -2"}, 3: {square, 0, 2, 3, "", "inner -2; inner 2"}, 4: {square, 0, 2, 3, "", "inner -2; inner 2"},
		100: {square, 0, 2, 3, "", "inner -2; inner 2"}, 101: {square, 0, 2, 3, "", "inner -2; inner 2"}, math.MaxInt: {square, 0, 2, 3, "", "inner -2; inner 2"},
	} {
		want.fuel = fuel
		checkRunCases(t, []runCase{want})
	}
}

func TestRunsAndTheirAnswers(t *testing.T) {
	full := "inner 1" + strings.Repeat("; inner 1", 99)
	checkRunCases(t, []runCase{
		// Nothing waits ahead of all: no unit, whatever was used.
		{foldWords{"x = 1", "0..4", "", "", 1, 17}, 5, 1, 0, "", ""},
		{foldWords{"x = 1", "0..4", "", "", 1, 1000000}, 1, 1, 0, "", ""},
		{foldWords{"x = 1", "0..4", "", "inner 1", 1, 17}, 0, 2, 0, "", "inner 1"},
		{foldWords{"x = 1", "0..4", "", full, 1, 1000000}, 100, 2, 0, "", full},
		// Nothing waits in the end: something was told in this run, earlier, or never.
		{atBetween(1, "x^2 = -1", "-8..8"), 1, 1, 1, "", ""},
		{atBetween(1, "x = 1", "-8..8"), 1, 2, 1, "", "inner 1"},
		{foldWords{"x >= 1", "-8..8", "-4..-3; -2..-1", "inner 5", 1, 17}, 9, 2, 2, "", "inner 5"},
		{foldWords{"x >= 1", "-8..8", "-4..-3; -2..-1", "", 1, 17}, 2, 1, 2, "", ""},
		{foldWords{"x >= 1", "-8..8", "-4..-3; -2..-1", "", 1, 17}, 1, 3, 1, "-4..-3", ""},
		{foldWords{"x >= 1", "-8..8", "3; -2..-1; -4..-3; 2", "inner 5", 1, 17}, 4, 2, 4, "", "inner 5; inner 2; inner 3"},
		{foldWords{"x >= 1", "-8..8", "3; -2..-1; -4..-3; 2", "inner 5", 1, 17}, 3, 3, 3, "3", "inner 5; inner 2"},
		// The units that Used has room for, and then it stops, though there is fuel; without anything that waits it need not stop.
		{foldWords{"x >= 1", "-8..8", "2; 3", "", 1, 1000000}, 9, 4, 0, "2; 3", ""},
		{foldWords{"x >= 1", "-8..8", "2; 3", "", 1, 999999}, 9, 4, 1, "2", "inner 3"},
		{foldWords{"x >= 1", "-8..8", "2; 3", "", 1, 999999}, 1, 3, 1, "2", "inner 3"},
		{foldWords{"x >= 1", "-8..8", "2; 3", "", 1, 999998}, 9, 2, 2, "", "inner 3; inner 2"},
		{foldWords{"x >= 1", "-8..8", "-2; -3", "", 1, 999998}, 2, 1, 2, "", ""},
		{foldWords{"x >= 1", "-8..8", "1..2", "", 1, 999998}, 9, 4, 2, "1.5..2; 1.25..1.5; 1..1.25", ""},
		// A box that can't be told any more stops it; all that comes ahead of it is done.
		{foldWords{"x >= 1", "-8..8", "2", full, 1, 17}, 9, 4, 0, "2", full},
		{foldWords{"x >= 1", "-8..8", "4; 2; -1..0; -3", full, 1, 17}, 9, 4, 2, "4; 2", full},
		{foldWords{"x >= 1", "-8..8", "4; 2; -1..0; -3", full, 1, 17}, 2, 3, 2, "4; 2", full},
		{foldWords{"x >= 1", "-8..8", "-4; -2", full, 1, 17}, 9, 2, 2, "", full},
		{foldWords{"x >= 1", "-8..8", "4; 3; 2; 1", full[18:], 1, 17}, 9, 4, 2, "4; 3", full[18:] + "; inner 1; inner 2"},
		{foldWords{"x >= 1", "-8..8", "4; 3; 2; 1", full[18:], 1, 17}, 2, 3, 2, "4; 3", full[18:] + "; inner 1; inner 2"},
		{foldWords{"x >= 1", "-8..8", "2; 1", full[18:], 1, 17}, 2, 2, 2, "", full[18:] + "; inner 1; inner 2"},
		{foldWords{"x >= 1", "-8..8", "2", full, 1, 1000000}, 9, 4, 0, "2", full},
	})
}

// FoldMaxFuel is how many units a run takes at most.
func TestRunsOfMostFuel(t *testing.T) {
	for _, width := range bothWidths() {
		f := mustFold(t, width, foldWords{"x = y; 1 = 2", "-inf..inf -inf..inf -inf..inf -inf..inf", "", "", 1, 17})
		point := boxAs(t, width, "1 1 1 1")
		for waiting := 98; waiting <= 103; waiting++ {
			f.Waiting = slices.Repeat([]impl.Box{point}, waiting)
			for _, fuel := range []int{97, 98, 99, 100, 101, 102, 103, 104, 1000, math.MaxInt} {
				got, answer := checkRun(t, f, fuel)
				units := min(fuel, 100, waiting)
				want := 3
				if units == waiting {
					want = 1
				}
				if answer != want || got.Used != 17+units || len(got.Waiting) != waiting-units {
					t.Errorf("%d: FoldRun %d of %d boxes: %d, %d used, %d wait", width, fuel, waiting, answer, got.Used, len(got.Waiting))
				}
			}
		}
		// Just as many boxes are told as may be; one more waits.
		f = mustFold(t, width, foldWords{"x >= y", "-inf..inf -inf..inf -inf..inf -inf..inf", "", "", 1, 17})
		f.Waiting = slices.Repeat([]impl.Box{point}, 101)
		got, answer := checkRun(t, f, 100)
		again, stop := checkRun(t, got, 100)
		if answer != 3 || len(got.Told) != 100 || stop != 4 || !sameFold(got, again) {
			t.Errorf("%d: %d, %d told, then %d: %s", width, answer, len(got.Told), stop, foldString(again))
		}
	}
}

// Runs by chance, each the same however often it is asked for.
func TestManyRuns(t *testing.T) {
	t.Parallel()
	s := spread{279}
	count := [5]int{}
	for at := range 160 {
		for _, width := range bothWidths() {
			f, ok := someFold(&s, width, at)
			if !ok {
				continue
			}
			got, answer := checkRun(t, f, pick(&s, []int{-1, 1, 2, 3, 7, 20, 60, 100, 150}))
			count[answer]++
			if !checkFold(t, got) {
				t.Errorf("not ok any more: %s", foldString(got))
			}
		}
	}
	for answer, least := range [...]int{0, 12, 12, 50, 12} {
		if count[answer] < least {
			t.Errorf("only %d runs that answer %d", count[answer], answer)
		}
	}
}

// A run hangs on nothing but what it was given, whichever box is narrowed first.
func TestRunsAreAlike(t *testing.T) {
	for _, width := range bothWidths() {
		f := mustFold(t, width, atBetween(1000000, "x^2 + y^2 = 4; x * y = 1/2; (x - y)^3 <= 5; sqrt(x + 4) >= y - 2", "-8..8 -8..8"))
		want, answer := checkRun(t, f, 60)
		for range 40 {
			if got, again := impl.FoldRun(f, 60); again != answer || !sameFold(got, want) {
				t.Fatalf("%s: %d, %s, and then %d, %s", foldString(f), answer, foldString(want), again, foldString(got))
			}
		}
	}
}

// A run that has answered has no goroutines any more, also where it stops while boxes are narrowed ahead of it. One that is done may take a moment to go, so one run of many that leaves none is enough.
func TestRunsWaitForTheirGoroutines(t *testing.T) {
	before := runtime.NumGoroutine()
	lines := "x = x"
	for at := range 11 {
		add := strconv.Itoa(at + 1)
		lines += "; (x + " + add + ")^2 * (y + " + add + ")^2 + z * u - v * w >= -1e9"
	}
	for _, width := range bothWidths() {
		f := mustFold(t, width, foldWords{lines, "-8..8 -8..8 -8..8 -8..8 -8..8 -8..8", "", "", 1, 17})
		point := boxAs(t, width, "1 1 1 1 1 1")
		f.Waiting = append(slices.Repeat([]impl.Box{boxAs(t, width, "0..1/2 0..1/2 0..1/2 0..1/2 0..1/2 0..1/2")}, 7), point)
		f.Told = slices.Repeat([]impl.FoldBox{{Inner: true, Box: point}}, 100)
		if !isFoldBy(f) {
			t.Fatalf("the test itself has a search that is not ok: %s", foldString(f))
		}
		least := 99
		for tries := 0; tries < 20 && least > 0; tries++ {
			if _, answer := impl.FoldRun(f, 8); answer != 4 {
				t.Fatalf("the test itself has a run that answers %d", answer)
			}
			least = min(least, runtime.NumGoroutine()-before)
		}
		if least > 0 {
			t.Errorf("%d: %d goroutines go on behind an answer", width, least)
		}
	}
}
