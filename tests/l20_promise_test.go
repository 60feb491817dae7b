package tests

import (
	"math/big"
	"slices"
	"strings"
	"testing"

	"loop.example/pinfold/impl"
)

// checkNotLost wants a solution of a search in a box that waits or was told.
func checkNotLost(t *testing.T, f impl.Fold, point []*big.Rat) {
	t.Helper()
	if !impl.FoldHas(f, fracsOf(point)) {
		t.Fatalf("%s is lost by %s", pointAs(point), foldString(f))
	}
}

// checkNeverLost goes on with a search in portions, and wants solutions never lost; it tells what the last portion answers.
func checkNeverLost(t *testing.T, s *spread, f impl.Fold, most int, points ...[]*big.Rat) (impl.Fold, int) {
	t.Helper()
	answer := 3
	for spent := 0; spent < most && answer == 3; {
		fuel := 1 + int(s.next()%40)
		f, answer = impl.FoldRun(f, fuel)
		spent += fuel
		for _, point := range points {
			checkNotLost(t, f, point)
		}
	}
	if answer == 1 && len(points) > 0 {
		t.Errorf("nothing was found: %s", foldString(f))
	}
	return f, answer
}

// Promise 62: no solution is ever lost, behind any portions of fuel.
func TestSearchesNeverLoseASolution(t *testing.T) {
	t.Parallel()
	s := spread{281}
	solved, done := 0, 0
	for at := range 240 {
		g := onlyKinds(&s, 1+at%3, []int{1, 2, 4, 7}[at/3%4], allKinds()...)
		if at%4 == 0 {
			g = productsGraph(&s, 2)
		}
		point := somePoint(&s, g.Vars)
		g, ok := solvedGraph(&s, g, point)
		if !ok {
			continue
		}
		p, ok := progOfGraph(g)
		if !ok {
			continue
		}
		solved++
		for _, width := range bothWidths() {
			f := begunFold(p, width, boxAround(&s, width, point), pick(&s, []int{1, 9, 1000, 1000000}))
			if impl.FoldSolves(f, fracsOf(point)) != 1 {
				t.Fatalf("the test itself has %s of %s", pointAs(point), foldString(f))
			}
			if _, answer := checkNeverLost(t, &s, f, 40, point); answer == 2 {
				done++
			}
		}
	}
	if solved < 100 || done < 60 {
		t.Errorf("only %d problems, %d searches that came to their end", solved, done)
	}
}

// solvedWords are a problem, a box, and all its solutions there.
type solvedWords struct {
	lines, box, points string
	between            int
}

// solvedCases are problems with few solutions: at bounds, where slopes are 0, where there is no bound, where a width has no float.
func solvedCases() []solvedWords {
	return []solvedWords{
		{"x^2 = 4", "-8..8", "2;-2", 1}, {"x^2 = 4", "-2..2", "2;-2", 1}, {"x^2 = 4", "-inf..inf", "2;-2", 1}, {"x * 3 = 1", "-8..8", "1/3", 1}, {"x * 3 = 1", "1/3", "1/3", 1}, {"x^3 = x", "-8..8", "0;1;-1", 1}, {"x^3 - 6 * x^2 + 11 * x = 6", "0..4", "1;2;3", 1000},
		{"x^2 + y^2 = 25; x * y = 12", "-8..8 -8..8", "3 4;4 3;-3 -4;-4 -3", 1000}, {"x^2 + y^2 = 25; x - y = 1", "-inf..inf -inf..inf", "4 3;-3 -4", 1000}, {"x * y = 6; x + y = 5; x <= y", "0..8 0..8", "2 3", 1000}, {"abs(x) + abs(y) = 2; x = y", "-8..8 -8..8", "1 1;-1 -1", 1000}, {"max(x, y) = 3; min(x, y) = x / 3; x >= 1", "-8..8 -8..8", "3 1", 1000},
		{"sqrt(x) = y; x + y = 6", "0..inf 0..8", "4 2", 1000}, {"x / y = 2; x - y = 1/10", "0..8 0..8", "1/5 1/10", 1000}, {"x + y + z = 6; x * y * z = 6; x - y = y - z; x <= z", "0..4 0..4 0..4", "1 2 3", 1000000},
	}
}

// All solutions of problems of which they are known are told in the end, in few boxes. Not each of these need have one: what a unit leaves is not looked at again.
func TestSearchesFindAllSolutions(t *testing.T) {
	t.Parallel()
	s := spread{282}
	for _, c := range solvedCases() {
		for _, width := range bothWidths() {
			var points [][]*big.Rat
			for _, point := range strings.Split(c.points, ";") {
				points = append(points, ratsOf(t, point))
			}
			f := mustFold(t, width, atBetween(c.between, c.lines, c.box))
			end, answer := checkNeverLost(t, &s, f, 3000, points...)
			if answer != 2 || len(end.Told) > 8*len(points) {
				t.Errorf("%d, %s", answer, foldString(end))
			}
		}
	}
}

// Promises 62 and 63 by points by chance: what is told inner holds solutions alone, and where nothing is found, there is none.
func TestSearchesByTheirPoints(t *testing.T) {
	t.Parallel()
	s := spread{283}
	inner, empty, points := 0, 0, 0
	for at := range 160 {
		for _, width := range bothWidths() {
			f, ok := someFold(&s, width, at)
			if !ok {
				continue
			}
			f, answer := checkNeverLost(t, &s, f, 30)
			for _, told := range f.Told[:min(len(f.Told), 12)] {
				if !told.Inner {
					continue
				}
				inner++
				for range 3 {
					if point := somePointOf(&s, width, told.Box); impl.FoldSolves(f, fracsOf(point)) == -1 {
						t.Errorf("%s is no solution, but in an inner box of %s", pointAs(point), foldString(f))
					}
				}
			}
			if answer != 1 {
				continue
			}
			empty++
			for range 10 {
				point := somePointOf(&s, width, f.Start)
				if points++; impl.FoldSolves(f, fracsOf(point)) == 1 {
					t.Errorf("%s is a solution, but nothing was found: %s", pointAs(point), foldString(f))
				}
			}
		}
	}
	if inner < 150 || empty < 60 {
		t.Errorf("only %d inner boxes, %d searches that found nothing", inner, empty)
	}
}

// Promise 63 of boxes around bounds: inner ones are told on one side alone.
func TestInnerBoxesHoldSolutionsAlone(t *testing.T) {
	t.Parallel()
	s := spread{284}
	for _, c := range []solvedWords{
		{"x <= 1/3", "0..1", "", 1000000}, {"x * x <= 2", "0..2", "", 1000000}, {"x + y <= 3; x * y >= 2", "0..3 0..3", "", 1000000}, {"sqrt(x) >= x", "0..2", "", 1000000}, {"1 / x >= x", "-2..2", "", 1000000}, {"abs(x) >= 1; x^2 <= 3", "-4..4", "", 1000000}, {"min(x, y) >= 1/7; max(x, y) <= 1/6", "0..1 0..1", "", 1000000},
	} {
		for _, width := range bothWidths() {
			f, _ := impl.FoldRun(mustFold(t, width, atBetween(c.between, c.lines, c.box)), 100)
			for _, told := range f.Told {
				for range 4 {
					point := somePointOf(&s, width, told.Box)
					if solves := impl.FoldSolves(f, fracsOf(point)); told.Inner && solves == -1 {
						t.Errorf("%s is no solution, but in an inner box of %s", pointAs(point), foldString(f))
					}
				}
			}
		}
	}
}

// Promises 64 and 65: behind any unit a search is ok, what waits is bounded, and the search is nearer to its end.
func TestUnitsBringSearchesNearerToTheirEnd(t *testing.T) {
	t.Parallel()
	s := spread{285}
	counted, most := 0, 0
	for at := range 120 {
		for _, width := range bothWidths() {
			f, ok := someFold(&s, width, at)
			if at%2 == 0 {
				f, ok = smallFold(&s, width, at)
			}
			for range 16 {
				if !ok || len(f.Waiting) == 0 {
					break
				}
				next, did := impl.FoldUnit(f)
				if did > 4 {
					break
				}
				counted += checkNearer(t, f, next, did)
				if !checkFold(t, next) || len(next.Waiting) > pathOf(f.Start) {
					t.Errorf("%s is not ok", foldString(next))
				}
				f, most = next, max(most, len(next.Waiting))
			}
		}
	}
	if counted < 200 || most < 10 {
		t.Errorf("only %d units of searches that can be counted, %d boxes that wait", counted, most)
	}
}

// smallFold is a search by chance that has just begun in a box of few steps; now and then it is nearly spent or nearly full.
func smallFold(s *spread, width int, at int) (impl.Fold, bool) {
	g := onlyKinds(s, 1+at%2, []int{1, 2, 4, 7}[at/2%4], allKinds()...)
	p, ok := progOfGraph(g)
	if !ok {
		return impl.Fold{}, false
	}
	f := begunFold(p, width, fewSteps(s, width, g.Vars), 1)
	switch s.next() % 6 {
	case 0:
		f.Used = 1000000 - int(s.next()%3)
	case 1:
		f.Told = slices.Repeat([]impl.FoldBox{toldPoint(f)}, 100-int(s.next()%3))
	}
	return f, true
}

// checkNearer wants of a unit that was spent what promise 65 says, and tells 1 if FoldLeft could be counted.
func checkNearer(t *testing.T, f impl.Fold, next impl.Fold, did int) int {
	t.Helper()
	last := len(f.Waiting) - 1
	if did < 1 || next.Used != f.Used+1 || len(next.Waiting) < last || len(next.Waiting) > last+2 || !slices.EqualFunc(next.Waiting[:last], f.Waiting[:last], sameBox) {
		t.Fatalf("a unit, %d, makes of %s: %s", did, foldString(f), foldString(next))
	}
	for _, b := range next.Waiting[last:] {
		if !isInBox(b, f.Waiting[last]) || sameBox(b, f.Waiting[last]) {
			t.Errorf("in the place of %s waits %s", boxText(f.Width, f.Waiting[last]), boxText(f.Width, b))
		}
	}
	before, after := impl.FoldLeft(f), impl.FoldLeft(next)
	if before >= 1000000000 {
		return 0
	}
	if after >= before {
		t.Errorf("FoldLeft %d of %s, then %d of %s", before, foldString(f), after, foldString(next))
	}
	return 1
}

// Promise 66: a search comes to its end behind as many units as FoldLeft says; the answer is FoldEmpty just if nothing was told.
func TestSearchesComeToTheirEnd(t *testing.T) {
	t.Parallel()
	s := spread{286}
	ended, full, spent, longest := 0, 0, 0, 0
	for at := range 300 {
		for _, width := range bothWidths() {
			f, ok := smallFold(&s, width, at)
			if !ok {
				continue
			}
			end, answer, units := f, 3, impl.FoldLeft(f)
			for left := units; answer == 3 && left > 0; left -= 100 {
				end, answer = impl.FoldRun(end, left)
			}
			longest = max(longest, end.Used-f.Used)
			switch {
			case units == 0:
			case answer == 4 && end.Used == 1000000 && len(end.Waiting) > 0:
				spent++
			case answer == 4 && len(end.Told) == 100 && len(end.Waiting) > 0:
				full++
			case len(end.Waiting) > 0 || answer != 1+min(len(end.Told), 1) || end.Used-f.Used > units:
				t.Errorf("%d units of %s: %d, %s", units, foldString(f), answer, foldString(end))
			default:
				ended++
			}
		}
	}
	if ended < 400 || full < 20 || spent < 30 || longest < 25 {
		t.Errorf("only %d searches that ended, %d full ones, %d spent ones, %d units", ended, full, spent, longest)
	}
}

// Promise 67: fuel in portions is fuel at once, as long as both together are at most FoldMaxFuel.
func TestFuelInPortions(t *testing.T) {
	t.Parallel()
	s := spread{287}
	longest := 0
	for at := range 40 {
		for _, width := range bothWidths() {
			f, ok := someFold(&s, width, at)
			if !ok {
				continue
			}
			whole := pick(&s, []int{2, 3, 5, 12, 40, 99, 100})
			first := 1 + int(s.next()%uint64(whole-1))
			want, wantAnswer := impl.FoldRun(f, whole)
			part, _ := impl.FoldRun(f, first)
			got, answer := impl.FoldRun(part, whole-first)
			if answer != wantAnswer || !sameFold(got, want) {
				t.Errorf("%d and %d of %s: %d, %s, but at once %d, %s", first, whole-first, foldString(f), answer, foldString(got), wantAnswer, foldString(want))
			}
			longest = max(longest, got.Used-f.Used)
			// And unit by unit.
			units := f
			for range whole {
				if next, did := impl.FoldUnit(units); did >= 1 && did <= 4 {
					units = next
				}
			}
			if !sameFold(units, want) {
				t.Errorf("%d of %s, unit by unit: %s, but at once %s", whole, foldString(f), foldString(units), foldString(want))
			}
		}
	}
	if longest < 100 {
		t.Errorf("only %d units at most", longest)
	}
}

// checkSolvedAlike wants two problems to be searched alike, unit by unit, and tells how many units both took.
func checkSolvedAlike(t *testing.T, s *spread, p impl.Prog, other impl.Prog) int {
	t.Helper()
	spent := 0
	for _, width := range bothWidths() {
		bits := impl.BoxBits(width, someBoxOf(s, width, len(p.Vars)))
		between := pick(s, []int{1, 1000, 1000000})
		f, code := impl.FoldOpen(impl.ProgText(p), width, bits, between)
		g, otherCode := impl.FoldOpen(impl.ProgText(other), width, bits, between)
		if code != 0 || otherCode != 0 {
			return 0
		}
		for range 5 {
			did, otherDid := 0, 0
			f, did = impl.FoldUnit(f)
			g, otherDid = impl.FoldUnit(g)
			same := copiedFold(g)
			same.Prog = f.Prog
			if did != otherDid || !sameFold(f, same) {
				t.Fatalf("%d, %s, but otherwise %d, %s", did, foldString(f), otherDid, foldString(g))
			}
			spent += min(did, 1)
		}
		f, answer := impl.FoldRun(f, 12)
		g, otherAnswer := impl.FoldRun(g, 12)
		g.Prog = f.Prog
		if answer != otherAnswer || !sameFold(f, g) {
			t.Errorf("%d, %s, but otherwise %d, %s", answer, foldString(f), otherAnswer, foldString(g))
		}
	}
	return spent
}

// Promise 69: a problem said otherwise is solved alike: with all bodies put in, or a variable renamed.
func TestProblemsSaidOtherwiseAreSolvedAlike(t *testing.T) {
	t.Parallel()
	s := spread{288}
	flats, renames := 0, 0
	for at := range 60 {
		p := someProg(&s, []int{2, 4, 6}[at%3])
		p.Rels = p.Rels[:min(len(p.Rels), 1+at%3)]
		if at%5 == 0 {
			p = mustProg(t, textWith("def m(a, b) = a * b", "def s(a) = m(a, a) + c", "def c = 1", "var x", "var y", "m(x, y) = c", "s(x) <= c + c * 9", "m(y, y) >= 0.25 * c"))
		}
		if flat, ok := impl.ProgFlat(p); ok {
			flats += checkSolvedAlike(t, &s, p, flat)
		}
		if renamed, ok := impl.ProgRename(p, pick(&s, p.Vars), pick(&s, []string{"w", "n0", "abcdefgh"})); ok {
			renames += checkSolvedAlike(t, &s, p, renamed)
		}
	}
	if flats < 80 || renames < 80 {
		t.Errorf("only %d units of flat problems, %d of renamed ones", flats, renames)
	}
}

// Promise 70: over a box that HullRefutes refutes the first unit answers FoldEmpty.
func TestWhatIsSeenAtOnce(t *testing.T) {
	t.Parallel()
	s := spread{289}
	refuted := 0
	for at := range 400 {
		g := onlyKinds(&s, 1+at%3, []int{1, 2, 4, 7}[at/3%4], allKinds()...)
		p, ok := progOfGraph(g)
		if !ok {
			continue
		}
		own, _ := impl.GraphOf(p)
		for _, width := range bothWidths() {
			f := begunFold(p, width, someBoxOf(&s, width, g.Vars), 1)
			if impl.HullRefutes(width, own, f.Start) == 0 {
				continue
			}
			refuted++
			one, did := impl.FoldUnit(f)
			got, answer := impl.FoldRun(f, 1)
			if did != 1 || answer != 1 || !sameFold(one, got) || len(got.Waiting) != 0 || len(got.Told) != 0 || got.Used != 1 {
				t.Errorf("%s is refuted, but: %d, %d, %s", foldString(f), did, answer, foldString(got))
			}
		}
	}
	if refuted < 200 {
		t.Errorf("only %d boxes that are refuted", refuted)
	}
}

// Promise 71: where a search among narrow floats ends with nothing told, no point of its first box is a solution, and nothing is told inner over the same box among wide floats.
func TestBothWidthsAgreeOnWhatHasNoSolution(t *testing.T) {
	t.Parallel()
	s := spread{290}
	empty, told := 0, 0
	for at := range 700 {
		g := onlyKinds(&s, 1+at%2, []int{1, 2, 4, 7}[at/2%4], allKinds()...)
		p, ok := progOfGraph(g)
		if !ok {
			continue
		}
		f := begunFold(p, 32, someBoxOf(&s, 32, g.Vars), pick(&s, []int{1, 1000000}))
		if at%3 == 0 {
			f = begunFold(p, 32, fewSteps(&s, 32, g.Vars), 1)
		}
		end, answer := impl.FoldRun(f, 40)
		if answer != 1 {
			continue
		}
		empty++
		for range 5 {
			if point := somePointOf(&s, 32, f.Start); impl.FoldSolves(end, fracsOf(point)) == 1 {
				t.Errorf("%s is a solution, but nothing was found: %s", pointAs(point), foldString(end))
			}
		}
		more, _ := impl.BoxMore(f.Start)
		wide, _ := impl.FoldRun(begunFold(p, 64, more, pick(&s, []int{1, 1000000})), 20)
		told += len(wide.Told)
		for _, one := range wide.Told {
			if one.Inner {
				t.Errorf("%s found nothing, but %s is inner", foldString(f), boxText(64, one.Box))
			}
		}
	}
	if empty < 150 {
		t.Errorf("only %d searches that found nothing, %d wide boxes told", empty, told)
	}
}
