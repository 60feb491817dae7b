package tests

import (
	"math/big"
	"strconv"
	"testing"

	"loop.example/pinfold/impl"
)

// Narrowing by slopes is held here against the document's sentence, written out as words that are gone through from the left on a stack of spans, over the slopes of the tests' own.

// slopesRow is what a variable's span x is then: w is wanted of the difference, d is what that is where the variable is just c, s is its slope.
const slopesRow = "w d - s x c - BackMul c + x meet"

// fitsBy is what NewtonFits should tell of a graph and a box that belong together.
func fitsBy(width int, g impl.Graph, b impl.Box, rel int) bool {
	made, difference, _, ok := slopesOfRel(g, rel)
	if !ok {
		return false
	}
	p := padOver(width, made, b)
	for at, is := range isMadeOf(made.Nodes, difference) {
		node := made.Nodes[at]
		switch {
		case !is:
		case !p.spans[at].Some,
			node.Kind == impl.TermDiv && hasNought(p.spans[node.B]),
			node.Kind == impl.TermRoot && p.spans[node.A].Lo <= 0:
			return false
		}
	}
	return true
}

// centreOf is the float that a pair is looked at from.
func centreOf(width int, p impl.Pair) impl.Span {
	half := new(big.Int).Rsh(stepsOf(p), 1)
	at := int(half.Add(half, big.NewInt(int64(p.Lo))).Int64())
	if at == -topOf(width) {
		at++
	}
	return single(at)
}

// wantedBy is the span that a relation wants of the difference of its sides.
func wantedBy(width int, kind int) impl.Span {
	return map[int]impl.Span{1: spanOf(-topOf(width), 0), 2: spanOf(0, topOf(width)), 3: single(0)}[kind]
}

// slopesLeave is what NewtonNarrow should leave of a box that belongs to a graph, as to the relations at these places, one behind the other.
func slopesLeave(width int, g impl.Graph, b impl.Box, rels ...int) (impl.Box, bool) {
	for _, rel := range rels {
		if !fitsBy(width, g, b, rel) {
			continue
		}
		made, difference, slopes, _ := slopesOfRel(g, rel)
		for v, p := range b.Pairs {
			if p.Lo == p.Hi {
				continue
			}
			c := centreOf(width, p)
			left := spanByWords(width, 0, slopesRow, map[string]impl.Span{
				"c": c, "x": spanOf(p.Lo, p.Hi), "w": wantedBy(width, g.Rels[rel].Kind),
				"d": padOver(width, made, withPair(b, v, pairOfSpan(c))).spans[difference],
				"s": padOver(width, made, b).spans[slopes[v]],
			})
			if !left.Some {
				return impl.Box{}, false
			}
			b = withPair(b, v, pairOfSpan(left))
		}
	}
	return b, true
}

// placesOf are the places of a graph's relations.
func placesOf(g impl.Graph) []int {
	var places []int
	for at := range g.Rels {
		places = append(places, at)
	}
	return places
}

// checkFits holds NewtonFits against what it should tell.
func checkFits(t *testing.T, width int, g impl.Graph, b impl.Box, rel int) bool {
	t.Helper()
	fits := impl.NewtonFits(width, g, b, rel)
	if fits != fitsBy(width, g, b, rel) {
		t.Errorf("%d: NewtonFits %d of %q over %s: %v", width, rel, textOfGraph(g), boxText(width, b), fits)
	}
	return fits
}

// checkSlopes holds NewtonNarrow against what it should be, and a box that slopes do not fit against what it was.
func checkSlopes(t *testing.T, width int, g impl.Graph, b impl.Box, rel int) narrowed {
	t.Helper()
	var got, want narrowed
	got.box, got.ok = impl.NewtonNarrow(width, g, b, rel)
	want.box, want.ok = slopesLeave(width, g, b, rel)
	checkWhatIsLeft(t, "NewtonNarrow "+strconv.Itoa(rel), width, g, b, got, want)
	if !checkFits(t, width, g, b, rel) && (!got.ok || !sameBox(got.box, b)) {
		t.Errorf("%d: slopes of relation %d of %q do not fit, but of %s is left %s", width, rel, textOfGraph(g), boxText(width, b), got.text(width))
	}
	return got
}

// checkSlopesRound holds NewtonRound against what it should be.
func checkSlopesRound(t *testing.T, width int, g impl.Graph, b impl.Box) narrowed {
	t.Helper()
	var got, want narrowed
	got.box, got.ok = impl.NewtonRound(width, g, b)
	want.box, want.ok = slopesLeave(width, g, b, placesOf(g)...)
	checkWhatIsLeft(t, "NewtonRound", width, g, b, got, want)
	return got
}

// allLeave is what HullAll should leave of a box, and the gaps that are found on the way.
func allLeave(width int, g impl.Graph, b impl.Box) (impl.Box, []impl.HullGap, bool) {
	box, found, ok := revisedBy(width, g, b, g.Rels...)
	if ok {
		box, ok = slopesLeave(width, g, box, placesOf(g)...)
	}
	return box, found, ok
}

// checkAll holds HullAll against what it should be.
func checkAll(t *testing.T, width int, g impl.Graph, b impl.Box) narrowed {
	t.Helper()
	var got, want narrowed
	var found []impl.HullGap
	got.box, got.gap, got.ok = impl.HullAll(width, g, b)
	want.box, found, want.ok = allLeave(width, g, b)
	if want.ok {
		want.gap = toldBy(width, want.box, found)
	}
	checkWhatIsLeft(t, "HullAll", width, g, b, got, want)
	return got
}

// checkBySlopes holds all four functions against what they should be.
func checkBySlopes(t *testing.T, width int, g impl.Graph, b impl.Box) narrowed {
	t.Helper()
	if !belongTogether(width, g, b) {
		t.Fatalf("the test itself has a graph and a box that do not belong together: %v, %v", g, b)
	}
	for rel := range g.Rels {
		checkSlopes(t, width, g, b, rel)
	}
	checkSlopesRound(t, width, g, b)
	return checkAll(t, width, g, b)
}
