package tests

import (
	"math/big"
	"slices"
	"strconv"
	"strings"
	"testing"

	"loop.example/pinfold/impl"
)

// Searches are held here against the document's sentences by steps that are counted as whole numbers of any size, and by HullAll and HullSure, asked for each box by itself.

// foldWords is a search in words: a problem's lines parted by ;, over as many variables as the first box has pairs; boxes are parted by ;, too, and a box that was told inner has that word ahead.
type foldWords struct {
	lines, start, waiting, told string
	between, used               int
}

// textOver is the text of a problem with lines that are parted by ;, over variables with these names.
func textOver(vars string, lines string) string {
	var all []string
	for _, name := range strings.Fields(vars) {
		all = append(all, "var "+name)
	}
	return textWith(append(all, strings.Split(lines, "; ")...)...)
}

// boxesAs are boxes that are parted by ;.
func boxesAs(t *testing.T, width int, text string) []impl.Box {
	t.Helper()
	var out []impl.Box
	for _, box := range strings.Split(text, "; ") {
		if text != "" {
			out = append(out, boxAs(t, width, box))
		}
	}
	return out
}

// toldAs are boxes that were told, parted by ;.
func toldAs(t *testing.T, width int, text string) []impl.FoldBox {
	t.Helper()
	var out []impl.FoldBox
	for _, told := range strings.Split(text, "; ") {
		box, isInner := strings.CutPrefix(told, "inner ")
		if text != "" {
			out = append(out, impl.FoldBox{Inner: isInner, Box: boxAs(t, width, box)})
		}
	}
	return out
}

// foldAs is the search that words say, ok or not.
func foldAs(t *testing.T, width int, w foldWords) impl.Fold {
	t.Helper()
	p := mustProg(t, textOver(namesFor(w.start), w.lines))
	return impl.Fold{Width: width, Between: w.between, Used: w.used, Prog: p, Start: boxAs(t, width, w.start), Waiting: boxesAs(t, width, w.waiting), Told: toldAs(t, width, w.told)}
}

// mustFold is the search that words say, which has to be ok.
func mustFold(t *testing.T, width int, w foldWords) impl.Fold {
	t.Helper()
	f := foldAs(t, width, w)
	if !isFoldBy(f) {
		t.Fatalf("the test itself has a search that is not ok: %s", foldString(f))
	}
	return f
}

// withBoxes is a search with other boxes that wait and were told, behind so many units.
func withBoxes(t *testing.T, f impl.Fold, waiting string, told string, units int) impl.Fold {
	t.Helper()
	f.Waiting, f.Told = boxesAs(t, f.Width, waiting), toldAs(t, f.Width, told)
	f.Used += units
	return f
}

func boxesString(width int, boxes []impl.Box) string {
	var texts []string
	for _, b := range boxes[:min(len(boxes), 40)] {
		texts = append(texts, boxText(width, b))
	}
	return strconv.Itoa(len(boxes)) + " [" + strings.Join(texts, "; ") + "]"
}

// foldString tells of a search what tests compare.
func foldString(f impl.Fold) string {
	var told []impl.Box
	var inner []string
	for _, one := range f.Told {
		told = append(told, one.Box)
		inner = append(inner, strconv.FormatBool(one.Inner))
	}
	head := strconv.Quote(impl.ProgText(f.Prog)) + " width " + strconv.Itoa(f.Width) + " between " + strconv.Itoa(f.Between) + " used " + strconv.Itoa(f.Used)
	return head + " start " + boxText(f.Width, f.Start) + " waiting " + boxesString(f.Width, f.Waiting) + " told " + boxesString(f.Width, told) + " inner " + strings.Join(inner, " ")
}

func sameTold(a impl.FoldBox, b impl.FoldBox) bool {
	return a.Inner == b.Inner && sameBox(a.Box, b.Box)
}

func sameFold(a impl.Fold, b impl.Fold) bool {
	return a.Width == b.Width && a.Between == b.Between && a.Used == b.Used && sameProg(a.Prog, b.Prog) && sameBox(a.Start, b.Start) &&
		slices.EqualFunc(a.Waiting, b.Waiting, sameBox) && slices.EqualFunc(a.Told, b.Told, sameTold)
}

// isNoFold says whether a search is the nothing of its type.
func isNoFold(f impl.Fold) bool { return sameFold(f, impl.Fold{}) }

// copiedFold is a search that shares no memory with another one.
func copiedFold(f impl.Fold) impl.Fold {
	out := impl.Fold{Width: f.Width, Between: f.Between, Used: f.Used, Prog: copied(f.Prog), Start: cloned(f.Start)}
	for _, b := range f.Waiting {
		out.Waiting = append(out.Waiting, cloned(b))
	}
	for _, told := range f.Told {
		out.Told = append(out.Told, impl.FoldBox{Inner: told.Inner, Box: cloned(told.Box)})
	}
	return out
}

// isRealBox says whether a box is ok.
func isRealBox(width int, b impl.Box) bool {
	return len(b.Pairs) >= 1 && len(b.Pairs) <= 6 && !slices.ContainsFunc(b.Pairs, func(p impl.Pair) bool { return !realPair(width, p) })
}

// isInBox says whether a box lies within another one of as many pairs.
func isInBox(a impl.Box, b impl.Box) bool {
	for at, p := range a.Pairs {
		if p.Lo < b.Pairs[at].Lo || p.Hi > b.Pairs[at].Hi {
			return false
		}
	}
	return true
}

// isFineBy says whether no pair has more floats between its bounds.
func isFineBy(b impl.Box, between int) bool {
	most := big.NewInt(int64(between) + 1)
	return !slices.ContainsFunc(b.Pairs, func(p impl.Pair) bool { return stepsOf(p).Cmp(most) > 0 })
}

// isHalvedBy says whether some pair that had steps has lost half of them.
func isHalvedBy(before impl.Box, after impl.Box) bool {
	for at, p := range before.Pairs {
		twice := new(big.Int).Lsh(stepsOf(after.Pairs[at]), 1)
		if stepsOf(p).Sign() > 0 && twice.Cmp(stepsOf(p)) <= 0 {
			return true
		}
	}
	return false
}

// isWorthBy says whether a gap has at least as many steps as an eighth, down, of those of its pair.
func isWorthBy(b impl.Box, gap impl.HullGap) bool {
	oneMore := moved(stepsOf(gap.Pair), 1)
	return gap.Some && oneMore.Lsh(oneMore, 3).Cmp(stepsOf(b.Pairs[gap.Var])) > 0
}

// partsBy are the two boxes that a box is cut into, the first one first.
func partsBy(b impl.Box, gap impl.HullGap) (impl.Box, impl.Box) {
	if isWorthBy(b, gap) {
		p := b.Pairs[gap.Var]
		low, high := impl.Pair{Lo: p.Lo, Hi: gap.Pair.Lo}, impl.Pair{Lo: gap.Pair.Hi, Hi: p.Hi}
		if stepsOf(low).Cmp(stepsOf(high)) > 0 {
			low, high = high, low
		}
		return withPair(b, gap.Var, low), withPair(b, gap.Var, high)
	}
	widest := 0
	for at, p := range b.Pairs {
		if stepsOf(p).Cmp(stepsOf(b.Pairs[widest])) > 0 {
			widest = at
		}
	}
	p := b.Pairs[widest]
	half := new(big.Int).Rsh(stepsOf(p), 1)
	middle := int(half.Add(half, big.NewInt(int64(p.Lo))).Int64())
	return withPair(b, widest, impl.Pair{Lo: p.Lo, Hi: middle}), withPair(b, widest, impl.Pair{Lo: middle, Hi: p.Hi})
}

// readableBy is the graph of a problem that can be searched; false, if it has none, or its text is not read.
func readableBy(p impl.Prog) (impl.Graph, bool) {
	g, code := graphOf(p)
	if code != 0 {
		return impl.Graph{}, false
	}
	_, fault := readProg(textOfProg(p))
	return g, fault == impl.LangFault{}
}

// isFoldBy is what FoldOk should tell.
func isFoldBy(f impl.Fold) bool {
	isIn := func(n int, lo int, hi int) bool { return n >= lo && n <= hi }
	if f.Width != 32 && f.Width != 64 || !isIn(f.Between, 1, 1000000) || !isIn(f.Used, 0, 1000000) || len(f.Waiting) > 385 || len(f.Told) > 100 || !isRealBox(f.Width, f.Start) {
		return false
	}
	g, ok := readableBy(f.Prog)
	if !ok || g.Vars != len(f.Start.Pairs) {
		return false
	}
	isPart := func(b impl.Box) bool {
		return len(b.Pairs) == g.Vars && isRealBox(f.Width, b) && isInBox(b, f.Start)
	}
	for at, b := range f.Waiting {
		if !isPart(b) || at+pathOf(b) > pathOf(f.Start) {
			return false
		}
	}
	for _, told := range f.Told {
		if !isPart(told.Box) || !isFineBy(told.Box, f.Between) || told.Inner != sureBy(padOver(f.Width, g, told.Box)) {
			return false
		}
	}
	return true
}

// unitBy is what FoldUnit should make of an ok search, and what it should say.
func unitBy(f impl.Fold) (impl.Fold, int) {
	out := copiedFold(f)
	last := len(f.Waiting) - 1
	switch {
	case last < 0:
		return out, 0
	case f.Used == 1000000:
		return out, 6
	}
	g, _ := impl.GraphOf(f.Prog)
	left, gap, isLeft := impl.HullAll(f.Width, g, f.Waiting[last])
	isFine := isLeft && isFineBy(left, f.Between)
	if isFine && len(f.Told) == 100 {
		return out, 5
	}
	out.Waiting = out.Waiting[:last]
	out.Used++
	switch {
	case !isLeft:
		return out, 1
	case isFine:
		out.Told = append(out.Told, impl.FoldBox{Inner: impl.HullSure(f.Width, g, left), Box: left})
		return out, 2
	case isHalvedBy(f.Waiting[last], left):
		out.Waiting = append(out.Waiting, left)
		return out, 3
	}
	first, second := partsBy(left, gap)
	out.Waiting = append(out.Waiting, second, first)
	return out, 4
}

// runBy is what FoldRun should make of an ok search, and what it should answer.
func runBy(f impl.Fold, fuel int) (impl.Fold, int) {
	for range min(max(fuel, 1), 100) {
		did := 0
		f, did = unitBy(f)
		if did == 0 {
			break
		}
		if did > 4 {
			return f, 4
		}
	}
	if len(f.Waiting) > 0 {
		return f, 3
	}
	return f, 1 + min(len(f.Told), 1)
}

// openedBy is what FoldOpen should answer.
func openedBy(text string, width int, bits []uint64, between int) (impl.Fold, int) {
	p, fault := readProg(text)
	if fault != (impl.LangFault{}) {
		return impl.Fold{}, 1
	}
	if _, ok := readableBy(p); !ok {
		return impl.Fold{}, 2
	}
	start, code := impl.BoxOf(width, bits)
	switch {
	case code != 0:
		return impl.Fold{}, 3
	case len(start.Pairs) != len(p.Vars):
		return impl.Fold{}, 4
	}
	return impl.Fold{Width: width, Between: min(max(between, 1), 1000000), Prog: p, Start: start, Waiting: []impl.Box{start}}, 0
}

// checkOpen holds FoldOpen against what it should answer, and answers both.
func checkOpen(t *testing.T, text string, width int, bits []uint64, between int) (impl.Fold, int) {
	t.Helper()
	got, code := impl.FoldOpen(text, width, bits, between)
	want, wantCode := openedBy(text, width, bits, between)
	if code != wantCode || !sameFold(got, want) {
		t.Errorf("%d: FoldOpen of %.300q, %v, %d: code %d, %s, not %d, %s", width, text, bits, between, code, foldString(got), wantCode, foldString(want))
	}
	return got, code
}

// checkFold holds FoldOk against what it should tell.
func checkFold(t *testing.T, f impl.Fold) bool {
	t.Helper()
	ok := impl.FoldOk(f)
	if ok != isFoldBy(f) {
		t.Errorf("FoldOk of %s: %v", foldString(f), ok)
	}
	return ok
}

// checkUnit holds FoldUnit of an ok search against what it should make of it, and answers both.
func checkUnit(t *testing.T, f impl.Fold) (impl.Fold, int) {
	t.Helper()
	got, did := impl.FoldUnit(f)
	want, wantDid := unitBy(f)
	if did != wantDid || !sameFold(got, want) {
		t.Errorf("FoldUnit of %s: %d, %s, not %d, %s", foldString(f), did, foldString(got), wantDid, foldString(want))
	}
	return got, did
}

// checkRun holds FoldRun of an ok search against what it should make of it, and answers both.
func checkRun(t *testing.T, f impl.Fold, fuel int) (impl.Fold, int) {
	t.Helper()
	got, answer := impl.FoldRun(f, fuel)
	want, wantAnswer := runBy(f, fuel)
	if answer != wantAnswer || !sameFold(got, want) {
		t.Errorf("FoldRun %d of %s: %d, %s, not %d, %s", fuel, foldString(f), answer, foldString(got), wantAnswer, foldString(want))
	}
	return got, answer
}

// checkHas holds FoldHas and FoldSolves of an ok search against what they should tell of a point, and answers both.
func checkHas(t *testing.T, f impl.Fold, point []*big.Rat) (bool, int) {
	t.Helper()
	isIn := func(b impl.Box) bool {
		for at, p := range b.Pairs {
			if len(point) != len(b.Pairs) || !isWithin(f.Width, p, point[at]) {
				return false
			}
		}
		return true
	}
	has, solves := impl.FoldHas(f, fracsOf(point)), impl.FoldSolves(f, fracsOf(point))
	want := slices.ContainsFunc(f.Waiting, isIn) || slices.ContainsFunc(f.Told, func(told impl.FoldBox) bool { return isIn(told.Box) })
	if has != want {
		t.Errorf("FoldHas %s of %s: %v", pointAs(point), foldString(f), has)
	}
	wantSolves := 0
	if g, _ := impl.GraphOf(f.Prog); len(point) == g.Vars {
		wantSolves = holdsBy(g, outcomesOf(g, point))
	}
	if solves != wantSolves {
		t.Errorf("FoldSolves %s of %s: %d, not %d", pointAs(point), foldString(f), solves, wantSolves)
	}
	return has, solves
}

// checkUnitsLeft holds FoldLeft of an ok search against what it should tell.
func checkUnitsLeft(t *testing.T, f impl.Fold) int {
	t.Helper()
	sum := new(big.Int)
	for _, b := range f.Waiting {
		sum.Add(sum, unitsOf(b))
	}
	want := 1000000000
	if sum.Cmp(big.NewInt(int64(want))) < 0 {
		want = int(sum.Int64())
	}
	left := impl.FoldLeft(f)
	if left != want {
		t.Errorf("FoldLeft of %s: %d, not %d", foldString(f), left, want)
	}
	return left
}

// checkNoFold wants of each function what the document names for a search that is not ok.
func checkNoFold(t *testing.T, f impl.Fold) {
	t.Helper()
	if isFoldBy(f) {
		t.Fatalf("the test itself has an ok search: %s", foldString(f))
	}
	if impl.FoldOk(f) {
		t.Errorf("FoldOk of %s", foldString(f))
	}
	if got, did := impl.FoldUnit(f); did != 0 || !isNoFold(got) {
		t.Errorf("FoldUnit of %s: %d, %s", foldString(f), did, foldString(got))
	}
	for _, fuel := range []int{0, 3} {
		if got, answer := impl.FoldRun(f, fuel); answer != 0 || !isNoFold(got) {
			t.Errorf("FoldRun %d of %s: %d, %s", fuel, foldString(f), answer, foldString(got))
		}
	}
	for _, b := range append(slices.Clone(f.Waiting[:min(len(f.Waiting), 2)]), f.Start) {
		var point []impl.Frac
		for _, p := range b.Pairs[:min(len(b.Pairs), 7)] {
			value, _ := impl.FloatFrac(f.Width, p.Lo)
			point = append(point, value)
		}
		if impl.FoldHas(f, point) || impl.FoldSolves(f, point) != 0 {
			t.Errorf("FoldHas, FoldSolves %v of %s: %v, %d", point, foldString(f), impl.FoldHas(f, point), impl.FoldSolves(f, point))
		}
	}
	if left := impl.FoldLeft(f); left != 0 {
		t.Errorf("FoldLeft of %s: %d", foldString(f), left)
	}
}

// progOfGraph is a problem without definitions that says what a graph says; false, if that would be too long to be searched.
func progOfGraph(g impl.Graph) (impl.Prog, bool) {
	p := impl.Prog{Vars: []string{"x", "y", "z", "u", "v", "w"}[:g.Vars]}
	for _, rel := range g.Rels {
		left, hasLeft := graphTermOf(g, rel.Left, p.Vars)
		right, hasRight := graphTermOf(g, rel.Right, p.Vars)
		if !hasLeft || !hasRight {
			return impl.Prog{}, false
		}
		p.Rels = append(p.Rels, impl.ProgRel{Kind: rel.Kind, Left: left, Right: right})
	}
	_, ok := readableBy(p)
	return p, ok
}

// begunFold is a search over a problem and a box that has just begun.
func begunFold(p impl.Prog, width int, start impl.Box, between int) impl.Fold {
	return impl.Fold{Width: width, Between: between, Prog: p, Start: start, Waiting: []impl.Box{start}}
}

// gonePart is what some units make of an ok search.
func gonePart(f impl.Fold, units int) impl.Fold {
	for range units {
		f, _ = unitBy(f)
	}
	return f
}

// someFold is an ok search by chance, begun and gone on with for some units; now and then it is nearly spent or nearly full.
func someFold(s *spread, width int, at int) (impl.Fold, bool) {
	g := onlyKinds(s, 1+at%3, []int{1, 2, 4, 7}[at/3%4], allKinds()...)
	switch at % 4 {
	case 0:
		g = withSum(s, productsGraph(s, 2), 0)
	case 1:
		if solved, ok := solvedGraph(s, g, somePoint(s, g.Vars)); ok {
			g = solved
		}
	}
	p, ok := progOfGraph(g)
	if !ok {
		return impl.Fold{}, false
	}
	start := someBoxOf(s, width, g.Vars)
	if at%5 < 2 {
		start = fewSteps(s, width, g.Vars)
	}
	f := gonePart(begunFold(p, width, start, pick(s, []int{1, 1, 2, 9, 1000, 1000000})), int(s.next()%9))
	if s.next()%6 == 0 {
		f.Used = 1000000 - int(s.next()%9)
	}
	if s.next()%5 == 0 {
		f.Told = slices.Repeat([]impl.FoldBox{toldPoint(f)}, 100-int(s.next()%3))
	}
	return f, true
}

// fewSteps is a box of pairs of few steps, around 0 and around other numbers.
func fewSteps(s *spread, width int, count int) impl.Box {
	var b impl.Box
	for range count {
		lo := ordOf(width, float64(int(s.next()%5)-2)) - int(s.next()%4)
		b.Pairs = append(b.Pairs, impl.Pair{Lo: lo, Hi: lo + int(s.next()%8)})
	}
	return b
}

// toldPoint is a box of single floats of an ok search's first box, as it may have been told.
func toldPoint(f impl.Fold) impl.FoldBox {
	var b impl.Box
	for _, p := range f.Start.Pairs {
		at := max(p.Lo, 1-topOf(f.Width))
		b.Pairs = append(b.Pairs, impl.Pair{Lo: at, Hi: at})
	}
	g, _ := impl.GraphOf(f.Prog)
	return impl.FoldBox{Inner: sureBy(padOver(f.Width, g, b)), Box: b}
}
