package tests

import (
	"math/big"
	"strconv"
	"strings"
	"testing"

	"loop.example/pinfold/impl"
)

// narrowedInAllWays is what each way of narrowing leaves of a box: by each relation, by all, by the slopes of each, of all, and by all of these.
func narrowedInAllWays(width int, g impl.Graph, b impl.Box) map[string]narrowed {
	ways := map[string]narrowed{}
	for rel := range g.Rels {
		var by, slopes narrowed
		by.box, by.gap, by.ok = impl.HullRevise(width, g, b, rel)
		slopes.box, slopes.ok = impl.NewtonNarrow(width, g, b, rel)
		ways["HullRevise "+strconv.Itoa(rel)], ways["NewtonNarrow "+strconv.Itoa(rel)] = by, slopes
	}
	var round, slopes, all narrowed
	round.box, round.gap, round.ok = impl.HullRound(width, g, b)
	slopes.box, slopes.ok = impl.NewtonRound(width, g, b)
	all.box, all.gap, all.ok = impl.HullAll(width, g, b)
	ways["HullRound"], ways["NewtonRound"], ways["HullAll"] = round, slopes, all
	return ways
}

// checkNothingLost wants of a box with a solution that no way of narrowing loses it, again and again, and tells what slopes took away.
func checkNothingLost(t *testing.T, width int, g impl.Graph, b impl.Box, point []*big.Rat) int {
	t.Helper()
	if !impl.BoxHas(width, b, fracsOf(point)) || impl.PointHolds(g, fracsOf(point)) != 1 {
		t.Fatalf("%d: the test itself has %s of %q over %s", width, pointAs(point), textOfGraph(g), boxText(width, b))
	}
	if code := impl.HullRefutes(width, g, b); code != 0 {
		t.Errorf("%d: %q over %s is solved by %s, but refuted: %d", width, textOfGraph(g), boxText(width, b), pointAs(point), code)
	}
	less := 0
	for range 3 {
		for _, left := range narrowedInAllWays(width, g, b) {
			checkKeeps(t, width, g, b, point, left)
		}
		left, _, ok := impl.HullAll(width, g, b)
		if hull, _, isHull := impl.HullRound(width, g, b); ok && isHull && !sameBox(left, hull) {
			less++
		}
		if !ok || sameBox(left, b) {
			break
		}
		b = left
	}
	return less
}

// Promise 54: narrowing a box never loses a solution.
func TestNarrowingNeverLosesASolution(t *testing.T) {
	t.Parallel()
	s := spread{268}
	solved, less := 0, 0
	for at := range 1800 {
		kinds := smoothKinds()
		if at%4 == 0 {
			kinds = allKinds()
		}
		g := onlyKinds(&s, 1+at%3, []int{1, 2, 4, 7}[at/3%4], kinds...)
		point := somePoint(&s, g.Vars)
		g, ok := solvedGraph(&s, g, point)
		if !ok {
			continue
		}
		solved++
		for _, width := range bothWidths() {
			less += checkNothingLost(t, width, g, boxAround(&s, width, point), point)
		}
	}
	if solved < 900 || less < 250 {
		t.Errorf("only %d graphs, %d boxes that slopes made less", solved, less)
	}
}

// Promise 54 of products and sums, whose gaps and slopes come together.
func TestNarrowingNeverLosesASolutionOfProducts(t *testing.T) {
	t.Parallel()
	s := spread{269}
	solved, gaps := 0, 0
	for at := range 600 {
		g := productsGraph(&s, 2+at%2)
		if at%3 == 0 {
			g = withSum(&s, g, 0)
		}
		point := somePoint(&s, g.Vars)
		g, ok := solvedGraph(&s, g, point)
		if !ok {
			continue
		}
		solved++
		for _, width := range bothWidths() {
			b := boxAround(&s, width, point)
			for at, p := range b.Pairs {
				if far := max(p.Hi, -p.Lo); s.next()%4 > 0 {
					b.Pairs[at] = impl.Pair{Lo: -far, Hi: far}
				}
			}
			checkNothingLost(t, width, g, b, point)
			if _, gap, _ := impl.HullAll(width, g, b); gap.Some {
				gaps++
			}
		}
	}
	if solved < 300 || gaps < 20 {
		t.Errorf("only %d graphs, %d gaps", solved, gaps)
	}
}

// Promise 54 at the edges: solutions at bounds, where slopes are 0, where there is no bound, and where a width has hardly a float.
func TestNarrowingNeverLosesASolutionAtTheEdges(t *testing.T) {
	for _, c := range []struct{ lines, box, points string }{
		{"x^2 = 4", "-4..4", "2;-2"}, {"x^2 = 4", "-2..2", "2;-2"}, {"x^2 = 4", "-2..inf", "2;-2"}, {"x^2 = 4", "-inf..inf", "2;-2"}, {"x^2 = 0", "-4..4", "0"}, {"x^2 = 0", "0..inf", "0"}, {"x^2 <= 0", "-inf..0", "0"}, {"x^3 = x", "-4..4", "0;1;-1"}, {"x^3 = x", "-inf..inf", "0;1;-1"}, {"x^3 - 6 * x^2 + 11 * x = 6", "1..3", "1;2;3"}, {"x^3 - 6 * x^2 + 11 * x = 6", "-inf..inf", "1;2;3"}, {"x^2 = 9 / 16", "0..inf", "3/4"},
		{"x * y = 1", "-inf..inf -inf..inf", "1 1;-1 -1;1e30 1e-30;-1/3 -3"}, {"x * y = 0", "-4..4 -4..4", "0 0;0 4;-4 0"}, {"x * y = 0; x + y = 1", "-4..4 -4..4", "0 1;1 0"}, {"x^2 + y^2 = 25", "-5..5 -5..5", "3 4;-3 4;5 0;0 -5"}, {"x^2 + y^2 = 25; x - y = 1", "-9..9 -9..9", "4 3;-3 -4"}, {"x - x = 0", "-inf..inf", "0;1e30;-7/3"}, {"x / y = 2", "0..inf 0'..inf", "2 1;1 1/2;1e30 5e29;0.02 0.01"}, {"1 / x <= y", "0'..inf -inf..inf", "1 1;1e30 1;1 1e30"}, {"sqrt(x) = y", "0'..inf -inf..inf", "1 1;1/9 1/3;1e30 1e15"}, {"sqrt(x) + x = 6", "1..16", "4"},
		{"x + y = 0.3", "0..1 0..1", "0.1 0.2;0.3 0;0.15 0.15"}, {"x = 0.1", "0..1", "0.1"}, {"x = 0.1", "0.1..0.1", "0.1"}, {"x * 3 = 1", "0..1", "1/3"}, {"x * 3 = 1", "-inf..inf", "1/3"}, {"x * 7 <= 1; x * 7 >= 1", "-1..1", "1/7"}, {"x = 1e39", "-inf..inf", "1e39"}, {"x * 1e-30 = 1e30", "0..inf", "1e60"}, {"x * 1e30 = 1e-30", "-1..1", "1e-60"}, {"x^2 = 1e-60", "-1..1", "1e-30;-1e-30"}, {"x^2 = 1e-400", "-1..1", "1e-200"}, {"x^2 = 1e400", "-inf..inf", "1e200;-1e200"}, {"x / y = 1", "1e-60..1e60 1e-60..1e60", "1 1;1e-50 1e-50;1e50 1e50"}, {"x <= -1e39", "-inf..inf", "-1e39;-1e300"}, {"x^0 = 1", "-4..4", "0;1;-3"}, {"x^8 = 256", "-inf..inf", "2;-2"},
	} {
		g := graphWith(t, namesFor(c.box), c.lines)
		for _, width := range bothWidths() {
			for _, point := range strings.Split(c.points, ";") {
				checkNothingLost(t, width, g, boxAs(t, width, c.box), ratsOf(t, point))
			}
		}
	}
}

// checkTakesAway wants of each way of narrowing that what is left lies within the box, and that a gap that is told can be cut out of it; where slopes do not fit the box stays.
func checkTakesAway(t *testing.T, width int, g impl.Graph, b impl.Box) (int, int) {
	t.Helper()
	gaps, stays := 0, 0
	for way, left := range narrowedInAllWays(width, g, b) {
		if !left.ok {
			if len(left.box.Pairs) != 0 || left.gap != (impl.HullGap{}) {
				t.Errorf("%d: %s of %q over %s: %s", width, way, textOfGraph(g), boxText(width, b), left.text(width))
			}
			continue
		}
		if !impl.BoxOk(width, left.box) || !impl.BoxIs(left.box, b) {
			t.Errorf("%d: %s of %q over %s: %s is not within it", width, way, textOfGraph(g), boxText(width, b), left.text(width))
		}
		if !left.gap.Some {
			continue
		}
		gaps++
		if _, _, isCut := impl.BoxCut(width, left.box, left.gap.Var, left.gap.Pair); !isCut {
			t.Errorf("%d: %s of %q over %s: %s is not cut", width, way, textOfGraph(g), boxText(width, b), left.text(width))
		}
	}
	for rel := range g.Rels {
		if impl.NewtonFits(width, g, b, rel) {
			continue
		}
		stays++
		if left, ok := impl.NewtonNarrow(width, g, b, rel); !ok || !sameBox(left, b) {
			t.Errorf("%d: slopes of relation %d of %q do not fit %s, but leave %s", width, rel, textOfGraph(g), boxText(width, b), boxText(width, left))
		}
	}
	return gaps, stays
}

// Promise 58: narrowing only takes away.
func TestNarrowingOnlyTakesAway(t *testing.T) {
	t.Parallel()
	s := spread{270}
	gaps, stays := 0, 0
	for at := range 600 {
		g := graphInTurn(&s, at)
		if at%2 == 0 {
			g = withSum(&s, productsGraph(&s, 2+at%4), int(s.next()%2))
		}
		for _, width := range bothWidths() {
			b := someBoxOf(&s, width, g.Vars)
			for range 2 {
				told, unfit := checkTakesAway(t, width, g, b)
				gaps, stays = gaps+told, stays+unfit
				b = within(width, &s, b)
			}
		}
	}
	if gaps < 250 || stays < 600 {
		t.Errorf("only %d gaps, %d boxes that slopes do not fit", gaps, stays)
	}
}

// checkSaidOtherwise wants two problems to be narrowed alike in all ways, and tells of how many boxes something is left.
func checkSaidOtherwise(t *testing.T, s *spread, p impl.Prog, other impl.Prog) int {
	t.Helper()
	g, code := impl.GraphOf(p)
	made, madeCode := impl.GraphOf(other)
	if code != 0 || madeCode != 0 {
		return 0
	}
	left := 0
	for _, width := range bothWidths() {
		for range 2 {
			b := someBoxOf(s, width, g.Vars)
			ways := narrowedInAllWays(width, made, b)
			for way, want := range narrowedInAllWays(width, g, b) {
				if got := ways[way]; got.ok != want.ok || !sameBox(got.box, want.box) || got.gap != want.gap {
					t.Errorf("%d: %s of %q over %s: %s, but of %q: %s", width, way, textOfProg(p), boxText(width, b), want.text(width), textOfProg(other), got.text(width))
				}
			}
			if ways["HullAll"].ok {
				left++
			}
		}
	}
	return left
}

// Promise 61: the same problem is narrowed to the same box, and told the same gap, with all bodies put in (wherever that fits), or with a variable renamed.
func TestProblemsSaidOtherwiseAreNarrowedAlike(t *testing.T) {
	t.Parallel()
	s := spread{271}
	flats, renames := 0, 0
	for at := range 180 {
		p := someProg(&s, []int{2, 5, 9}[at%3])
		p.Rels = p.Rels[:min(len(p.Rels), 1+at%3)]
		if flat, ok := impl.ProgFlat(p); ok {
			flats += checkSaidOtherwise(t, &s, p, flat)
		}
		for _, name := range []string{"w", "n0", "abcdefgh"} {
			if renamed, ok := impl.ProgRename(p, pick(&s, p.Vars), name); ok {
				renames += checkSaidOtherwise(t, &s, p, renamed)
			}
		}
	}
	if flats < 100 || renames < 300 {
		t.Errorf("only %d left of flat problems, %d of renamed ones", flats, renames)
	}
}

// Promise 61 of problems with gaps, and with slopes that narrow.
func TestProblemsWithBodiesAreNarrowedAlike(t *testing.T) {
	s := spread{272}
	p := mustProg(t, textWith("def m(a, b) = a * b", "def s(a) = t(a) + t(a)", "def t(a) = a + a", "def c = 1", "var x", "var y", "m(x, y) = c", "s(x) <= c + c", "m(y, y) >= 0.25 * c"))
	flat, ok := impl.ProgFlat(p)
	if !ok {
		t.Fatal("the test itself has a problem that does not fit")
	}
	said := []impl.Prog{p, flat, mustProg(t, textWith("var x", "var y", "x * y = 1", "x + x + (x + x) <= 1 + 1", "y * y >= 0.25 * 1"))}
	for _, one := range said[:3] {
		for _, name := range []string{"u", "z", "m0"} {
			renamed, _ := impl.ProgRename(one, "x", name)
			said = append(said, renamed)
		}
		checkSaidOtherwise(t, &s, p, one)
	}
	for _, width := range bothWidths() {
		for _, c := range []struct{ box, left, gap string }{{"-4..4 -1..1", "-4..1/2 -1..1", "1: -1/4..1/4"}, {"-8..-1 -4..4", "-4..-1 -1..-1/2", ""}, {"1..4 -1..1", "", ""}} {
			want := narrowed{boxAs(t, width, c.left), gapAs(t, width, c.gap), c.left != ""}
			for _, one := range said {
				g, code := impl.GraphOf(one)
				if code != 0 {
					t.Fatalf("the test itself has %q", textOfProg(one))
				}
				if got := checkAll(t, width, g, boxAs(t, width, c.box)); got.ok != want.ok || !sameBox(got.box, want.box) || got.gap != want.gap {
					t.Errorf("%d: %q over %s: %s, not %s", width, textOfProg(one), c.box, got.text(width), want.text(width))
				}
			}
		}
	}
}
