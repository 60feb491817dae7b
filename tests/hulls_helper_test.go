package tests

import (
	"math"
	"math/big"
	"slices"
	"strconv"
	"strings"
	"testing"

	"loop.example/pinfold/impl"
)

// A graph over a box is held here against the document's table, written out as words that are gone through from the left on a stack of spans.

// spanWord is what a word does with as many spans as it takes, n being the node's power.
type spanWord struct {
	takes int
	makes func(width int, n int, of []impl.Span) impl.Span
}

func wordOfOne(makes func(width int, a impl.Span) impl.Span) spanWord {
	return spanWord{1, func(width int, _ int, of []impl.Span) impl.Span { return makes(width, of[0]) }}
}

func wordOfTwo(makes func(width int, a impl.Span, b impl.Span) impl.Span) spanWord {
	return spanWord{2, func(width int, _ int, of []impl.Span) impl.Span { return makes(width, of[0], of[1]) }}
}

func wordOfThree(makes backTwo) spanWord {
	return spanWord{3, func(width int, _ int, of []impl.Span) impl.Span { return makes(width, of[0], of[1], of[2]) }}
}

var spanWords = map[string]spanWord{
	"neg": wordOfOne(func(_ int, a impl.Span) impl.Span { return mirrored(a) }), "abs": wordOfOne(impl.SpanAbs), "sqrt": wordOfOne(impl.SpanRoot),
	"pow":  {1, func(width int, n int, of []impl.Span) impl.Span { return impl.SpanPow(width, of[0], n) }},
	"meet": wordOfTwo(func(_ int, a impl.Span, b impl.Span) impl.Span { return common(a, b) }),
	"+":    wordOfTwo(impl.SpanAdd), "-": wordOfTwo(impl.SpanSub), "*": wordOfTwo(impl.SpanMul), "/": wordOfTwo(impl.SpanDiv), "min": wordOfTwo(impl.SpanMin), "max": wordOfTwo(impl.SpanMax),
	"BackMul": wordOfThree(impl.BackMul), "BackTop": wordOfThree(impl.BackTop), "BackBottom": wordOfThree(impl.BackBottom), "BackMin": wordOfThree(impl.BackMin), "BackMax": wordOfThree(impl.BackMax),
	"BackPow":  {2, func(width int, n int, of []impl.Span) impl.Span { return impl.BackPow(width, of[0], n, of[1]) }},
	"BackRoot": wordOfTwo(impl.BackRoot), "BackAbs": wordOfTwo(impl.BackAbs),
}

// hullRow is what is said of a kind of nodes: how one is reckoned of a and b, and what a and b are then.
type hullRow struct{ forward, a, b string }

var hullRows = map[int]hullRow{
	impl.TermNeg:  {"a neg", "a z neg meet", ""},
	impl.TermAdd:  {"a b +", "a z b - meet", "b z a - meet"},
	impl.TermSub:  {"a b -", "a z b + meet", "b a z - meet"},
	impl.TermMul:  {"a b *", "z b a BackMul", "z a b BackMul"},
	impl.TermDiv:  {"a b /", "z b a BackTop", "z a b BackBottom"},
	impl.TermPow:  {"a pow", "z a BackPow", ""},
	impl.TermRoot: {"a sqrt", "z a BackRoot", ""},
	impl.TermAbs:  {"a abs", "z a BackAbs", ""},
	impl.TermMin:  {"a b min", "z b a BackMin", "z a b BackMin"},
	impl.TermMax:  {"a b max", "z b a BackMax", "z a b BackMax"},
}

// spanPad is a graph and the spans of its nodes, and all gaps that were found.
type spanPad struct {
	width int
	g     impl.Graph
	spans []impl.Span
	gaps  []impl.HullGap
}

// spanByWords is what words come to, n being the power of those that raise, some of them the names of spans.
func spanByWords(width int, n int, words string, named map[string]impl.Span) impl.Span {
	var stack []impl.Span
	for _, word := range strings.Fields(words) {
		if span, isNamed := named[word]; isNamed {
			stack = append(stack, span)
			continue
		}
		rest := len(stack) - spanWords[word].takes
		stack = append(stack[:rest], spanWords[word].makes(width, n, stack[rest:]))
	}
	return stack[0]
}

// worth is what words come to at a node.
func (p *spanPad) worth(at int, words string) impl.Span {
	node := p.g.Nodes[at]
	return spanByWords(p.width, node.N, words, map[string]impl.Span{"a": p.spans[node.A], "b": p.spans[node.B], "z": p.spans[at]})
}

// padOver is what HullForward should tell of a graph and a box that belong together.
func padOver(width int, g impl.Graph, b impl.Box) *spanPad {
	p := &spanPad{width: width, g: g, spans: make([]impl.Span, len(g.Nodes))}
	for at, node := range g.Nodes {
		switch {
		case at < g.Vars:
			p.spans[at] = spanOf(b.Pairs[at].Lo, b.Pairs[at].Hi)
		case node.Kind == impl.TermNumber:
			around := besides(width, numberRat(node.Text))
			p.spans[at] = spanOf(around.Lo, around.Hi)
		default:
			p.spans[at] = p.worth(at, hullRows[node.Kind].forward)
		}
	}
	return p
}

func isEmptySpan(s impl.Span) bool { return !s.Some }

func (p *spanPad) hasEmpty() bool { return slices.ContainsFunc(p.spans, isEmptySpan) }

func (p *spanPad) sure(rel impl.GraphRel) int {
	return impl.RelSure(p.width, rel.Kind, p.spans[rel.Left], p.spans[rel.Right])
}

// narrows narrows a part of a node, whose gap is looked for ahead of it if it is a variable that is a factor, and tells whether something is left.
func (p *spanPad) narrows(at int, part int, words string) bool {
	if words == "" {
		return true
	}
	if p.g.Nodes[at].Kind == impl.TermMul && part < p.g.Vars {
		other := p.g.Nodes[at].A + p.g.Nodes[at].B - part
		if gap, isThere := impl.BackMulGap(p.width, p.spans[at], p.spans[other], p.spans[part]); isThere {
			p.gaps = append(p.gaps, impl.HullGap{Some: true, Var: part, Pair: gap})
		}
	}
	p.spans[part] = p.worth(at, words)
	return p.spans[part].Some
}

// revise narrows by a relation, and tells whether something is left.
func (p *spanPad) revise(rel impl.GraphRel) bool {
	if p.hasEmpty() {
		return false
	}
	left, right := impl.RelMeet(p.width, rel.Kind, p.spans[rel.Left], p.spans[rel.Right])
	p.spans[rel.Left] = left
	if rel.Left == rel.Right {
		right = common(left, right)
	}
	p.spans[rel.Right] = right
	if !left.Some || !right.Some {
		return false
	}
	last := max(rel.Left, rel.Right)
	made := isMadeOf(p.g.Nodes[:last+1], last)
	for place, is := range isMadeOf(p.g.Nodes, min(rel.Left, rel.Right)) {
		made[place] = made[place] || is
	}
	for at := last; at >= p.g.Vars; at-- {
		node := p.g.Nodes[at]
		row := hullRows[node.Kind]
		if made[at] && (!p.narrows(at, node.A, row.a) || !p.narrows(at, node.B, row.b)) {
			return false
		}
	}
	return true
}

func (p *spanPad) box() impl.Box {
	var b impl.Box
	for _, s := range p.spans[:p.g.Vars] {
		b.Pairs = append(b.Pairs, pairOfSpan(s))
	}
	return b
}

// isCutBy says whether a gap leaves something of a box on both sides.
func isCutBy(width int, b impl.Box, gap impl.HullGap) bool {
	p := b.Pairs[gap.Var]
	return gap.Pair.Lo < gap.Pair.Hi && realPair(width, impl.Pair{Lo: p.Lo, Hi: gap.Pair.Lo}) && realPair(width, impl.Pair{Lo: gap.Pair.Hi, Hi: p.Hi})
}

// revisedBy is what relations, one behind the other, should leave of a box, and the gaps that they should find, one each.
func revisedBy(width int, g impl.Graph, b impl.Box, rels ...impl.GraphRel) (impl.Box, []impl.HullGap, bool) {
	var found []impl.HullGap
	for _, rel := range rels {
		p := padOver(width, g, b)
		if !p.revise(rel) {
			return impl.Box{}, nil, false
		}
		b, found = p.box(), append(found, p.gaps[:min(len(p.gaps), 1)]...)
	}
	return b, found, true
}

// toldBy is what is told of gaps that were found.
func toldBy(width int, b impl.Box, found []impl.HullGap) impl.HullGap {
	for _, gap := range found {
		if isCutBy(width, b, gap) {
			return gap
		}
	}
	return impl.HullGap{}
}

// belongTogether says whether a graph and a box do.
func belongTogether(width int, g impl.Graph, b impl.Box) bool {
	isNone := func(p impl.Pair) bool { return !realPair(width, p) }
	return (width == 32 || width == 64) && isGraph(g) && len(b.Pairs) == g.Vars && !slices.ContainsFunc(b.Pairs, isNone)
}

// refutedBy is what HullRefutes should tell, sureBy what HullSure should tell.
func refutedBy(p *spanPad) int {
	if p.hasEmpty() {
		return -1
	}
	for at, rel := range p.g.Rels {
		if p.sure(rel) == -1 {
			return at + 1
		}
	}
	return 0
}

func sureBy(p *spanPad) bool {
	isSure := !p.hasEmpty()
	for _, node := range p.g.Nodes {
		switch node.Kind {
		case impl.TermDiv:
			isSure = isSure && !hasNought(p.spans[node.B])
		case impl.TermRoot:
			isSure = isSure && p.spans[node.A].Lo >= 0
		}
	}
	for _, rel := range p.g.Rels {
		isSure = isSure && p.sure(rel) == 1
	}
	return isSure
}

// madeWrong are graphs that are not ok, each by one thing that is changed in one that is: its count of variables, of relations, a node or a relation.
func madeWrong(base impl.Graph) []impl.Graph {
	var out []impl.Graph
	add := func(change func(g *impl.Graph)) {
		g := copiedGraph(base)
		change(&g)
		out = append(out, g)
	}
	for _, vars := range []int{-1, 0, base.Vars - 1, base.Vars + 1, 7, math.MaxInt, math.MinInt} {
		add(func(g *impl.Graph) { g.Vars = vars })
	}
	for _, count := range []int{0, 13, 100} {
		add(func(g *impl.Graph) { g.Rels = slices.Repeat(base.Rels[:1], count) })
	}
	for at, own := range base.Nodes {
		for _, node := range []impl.GraphNode{{}, {Kind: impl.TermCall, N: 1, Text: "f"}, {Kind: impl.TermNeg, A: at}, {Kind: impl.TermNeg, A: at + 1}, {Kind: impl.TermNeg, A: math.MaxInt}, {Kind: impl.TermAdd, A: -1}, {Kind: impl.TermAdd, B: math.MinInt}, {Kind: impl.TermName, N: 7}, {Kind: impl.TermName, N: -1}, {Kind: impl.TermNumber}, {Kind: impl.TermNumber, Text: "x"}, {Kind: impl.TermPow, N: 9}, {Kind: impl.TermPow, N: -1}, {Kind: 14}, {Kind: math.MaxInt}, {Kind: math.MinInt}} {
			add(func(g *impl.Graph) { g.Nodes[at] = node })
		}
		add(func(g *impl.Graph) { g.Nodes = append(g.Nodes, own) })
	}
	for at := range base.Rels {
		for _, rel := range []impl.GraphRel{{}, {Kind: 4}, {Kind: 1, Left: -1}, {Kind: 1, Right: len(base.Nodes)}, {Kind: -1}, {Kind: 1, Left: math.MaxInt}, {Kind: 2, Right: math.MinInt}} {
			add(func(g *impl.Graph) { g.Rels[at] = rel })
		}
	}
	return out
}

// checkChanged holds what a check wants of graphs and boxes by chance, of which some belong together and others do not, and tells how many there were of both.
func checkChanged(t *testing.T, s *spread, count int, some func() impl.Graph, belongs func(t *testing.T, width int, g impl.Graph, b impl.Box) narrowed, apart func(t *testing.T, width int, g impl.Graph, b impl.Box)) (int, int) {
	t.Helper()
	good, wrong := 0, 0
	for at := range count {
		g := changedGraph(s, some())
		for _, width := range bothWidths() {
			b := someBoxOf(s, width, max(0, min(g.Vars, 7)))
			if at%5 == 0 {
				b = someBoxOf(s, width, int(s.next()%8))
			}
			if belongTogether(width, g, b) {
				good++
				belongs(t, width, g, b)
			} else {
				wrong++
				apart(t, width, g, b)
			}
		}
	}
	return good, wrong
}

// boundText tells a bound by its value.
func boundText(width int, ord int) string {
	return strconv.FormatFloat(valueOf(width, ord), 'g', -1, width)
}

func spanText(width int, s impl.Span) string {
	if !s.Some {
		return "none"
	}
	return boundText(width, s.Lo) + ".." + boundText(width, s.Hi)
}

func spansText(width int, spans []impl.Span) string {
	var words []string
	for _, s := range spans {
		words = append(words, spanText(width, s))
	}
	return strings.Join(words, " ")
}

func boxText(width int, b impl.Box) string {
	var spans []impl.Span
	for _, p := range b.Pairs {
		spans = append(spans, spanOf(p.Lo, p.Hi))
	}
	return spansText(width, spans)
}

func gapText(width int, gap impl.HullGap) string {
	if !gap.Some {
		return ""
	}
	return strconv.Itoa(gap.Var) + ": " + boxText(width, impl.Box{Pairs: []impl.Pair{gap.Pair}})
}

// checkForward holds all that is told of a box as it is against what it should be.
func checkForward(t *testing.T, width int, g impl.Graph, b impl.Box) []impl.Span {
	t.Helper()
	p := padOver(width, g, b)
	spans := impl.HullForward(width, g, b)
	if !slices.Equal(spans, p.spans) {
		t.Errorf("%d: HullForward of %q over %s: %s, not %s", width, textOfGraph(g), boxText(width, b), spansText(width, spans), spansText(width, p.spans))
	}
	if got, want := impl.HullRefutes(width, g, b), refutedBy(p); got != want {
		t.Errorf("%d: HullRefutes of %q over %s: %d, not %d", width, textOfGraph(g), boxText(width, b), got, want)
	}
	if got, want := impl.HullSure(width, g, b), sureBy(p); got != want {
		t.Errorf("%d: HullSure of %q over %s: %v", width, textOfGraph(g), boxText(width, b), got)
	}
	return spans
}

// narrowed is what was left of a box, and told.
type narrowed struct {
	box impl.Box
	gap impl.HullGap
	ok  bool
}

func (n narrowed) text(width int) string {
	return boxText(width, n.box) + "; " + gapText(width, n.gap) + "; " + strconv.FormatBool(n.ok)
}

// checkNarrowed holds what relations have left of a box against what they should.
func checkNarrowed(t *testing.T, what string, width int, g impl.Graph, b impl.Box, got narrowed, rels ...impl.GraphRel) {
	t.Helper()
	box, found, ok := revisedBy(width, g, b, rels...)
	checkWhatIsLeft(t, what, width, g, b, got, narrowed{box, toldBy(width, box, found), ok})
}

// checkWhatIsLeft holds what was left of a box against what should be, and sees that it lies within it, with a gap that can be cut out.
func checkWhatIsLeft(t *testing.T, what string, width int, g impl.Graph, b impl.Box, got narrowed, want narrowed) {
	t.Helper()
	if got.ok != want.ok || !sameBox(got.box, want.box) || got.gap != want.gap {
		t.Errorf("%d: %s of %q over %s: %s, not %s", width, what, textOfGraph(g), boxText(width, b), got.text(width), want.text(width))
	}
	if !got.ok {
		return
	}
	if !impl.BoxOk(width, got.box) || !impl.BoxIs(got.box, b) {
		t.Errorf("%d: %s of %q over %s: %s is not within it", width, what, textOfGraph(g), boxText(width, b), boxText(width, got.box))
	}
	if _, _, isCut := impl.BoxCut(width, got.box, got.gap.Var, got.gap.Pair); isCut != got.gap.Some {
		t.Errorf("%d: %s of %q over %s: the gap %v is cut: %v", width, what, textOfGraph(g), boxText(width, b), got.gap, isCut)
	}
}

// checkRevise holds HullRevise against what it should be.
func checkRevise(t *testing.T, width int, g impl.Graph, b impl.Box, rel int) narrowed {
	t.Helper()
	var got narrowed
	got.box, got.gap, got.ok = impl.HullRevise(width, g, b, rel)
	checkNarrowed(t, "HullRevise "+strconv.Itoa(rel), width, g, b, got, g.Rels[rel])
	return got
}

// checkRound holds HullRound against what it should be.
func checkRound(t *testing.T, width int, g impl.Graph, b impl.Box) narrowed {
	t.Helper()
	var got narrowed
	got.box, got.gap, got.ok = impl.HullRound(width, g, b)
	checkNarrowed(t, "HullRound", width, g, b, got, g.Rels...)
	return got
}

// checkOver holds all five functions against what they should be.
func checkOver(t *testing.T, width int, g impl.Graph, b impl.Box) narrowed {
	t.Helper()
	if !belongTogether(width, g, b) {
		t.Fatalf("the test itself has a graph and a box that do not belong together: %v, %v", g, b)
	}
	checkForward(t, width, g, b)
	for rel := range g.Rels {
		checkRevise(t, width, g, b, rel)
	}
	return checkRound(t, width, g, b)
}

// boundsAs are the floats next to what a word says: a number or a fraction, -inf or inf, or @ ahead of an order number; or a number and, behind ' or ", the next float above or below that.
func boundsAs(t *testing.T, width int, word string) impl.Pair {
	t.Helper()
	top := topOf(width)
	switch word {
	case "-inf":
		return impl.Pair{Lo: -top, Hi: -top}
	case "inf":
		return impl.Pair{Lo: top, Hi: top}
	}
	if ord, isOrd := strings.CutPrefix(word, "@"); isOrd {
		at, _ := strconv.Atoi(ord)
		return impl.Pair{Lo: at, Hi: at}
	}
	steps := strings.Count(word, "'") - strings.Count(word, "\"")
	around := besides(width, ratsOf(t, strings.Trim(word, "'\""))[0])
	return impl.Pair{Lo: around.Lo + steps, Hi: around.Hi + steps}
}

// spansAs are spans with blanks between, the least that have what is said: from one number to another one, or just one, or none.
func spansAs(t *testing.T, width int, text string) []impl.Span {
	t.Helper()
	var out []impl.Span
	for _, word := range strings.Fields(text) {
		lo, hi, isRange := strings.Cut(word, "..")
		switch {
		case word == "none":
			out = append(out, impl.Span{})
			continue
		case !isRange:
			hi = lo
		}
		out = append(out, spanOf(boundsAs(t, width, lo).Lo, boundsAs(t, width, hi).Hi))
	}
	return out
}

func boxAs(t *testing.T, width int, text string) impl.Box {
	t.Helper()
	var b impl.Box
	for _, s := range spansAs(t, width, text) {
		b.Pairs = append(b.Pairs, pairOfSpan(s))
	}
	return b
}

// gapAs is a gap as "1: -1..1", which begins where the lower part ends, so that its bounds are rounded inward.
func gapAs(t *testing.T, width int, text string) impl.HullGap {
	t.Helper()
	if text == "" {
		return impl.HullGap{}
	}
	at, words, _ := strings.Cut(text, ": ")
	lo, hi, _ := strings.Cut(words, "..")
	place, _ := strconv.Atoi(at)
	return impl.HullGap{Some: true, Var: place, Pair: impl.Pair{Lo: boundsAs(t, width, lo).Hi, Hi: boundsAs(t, width, hi).Lo}}
}

// allKinds are all kinds of nodes that stand behind variables.
func allKinds() []int { return append(smoothKinds(), impl.TermAbs, impl.TermMin, impl.TermMax) }

// somePair is a pair of a width: of whole and half numbers, of few steps around one, with infinite bounds, and now and then one from anywhere.
func somePair(s *spread, width int) impl.Pair {
	half := func() int { return ordOf(width, float64(int(s.next()%25)-12)/2) }
	one, other := half(), half()
	switch s.next() % 10 {
	case 0:
		return impl.Pair{Lo: one, Hi: one}
	case 1, 2:
		return impl.Pair{Lo: one - int(s.next()%3), Hi: one + int(s.next()%3)}
	case 3:
		return impl.Pair{Lo: -topOf(width), Hi: one}
	case 4:
		return impl.Pair{Lo: one, Hi: topOf(width)}
	case 5:
		return pick(s, okPairs(width))
	}
	return impl.Pair{Lo: min(one, other), Hi: max(one, other)}
}

// someBoxOf is a box of so many pairs.
func someBoxOf(s *spread, width int, count int) impl.Box {
	var b impl.Box
	for range count {
		b.Pairs = append(b.Pairs, somePair(s, width))
	}
	return b
}

// someNumberIn is a number of a pair: a bound, a small number, the value of a float between the bounds, or one between two floats.
func someNumberIn(s *spread, width int, p impl.Pair) *big.Rat {
	lo, hi := max(p.Lo, 1-topOf(width)), min(p.Hi, topOf(width)-1)
	at := lo
	if lo < hi {
		at += int(s.next() % (uint64(hi) - uint64(lo)))
	}
	numbers := []*big.Rat{ratOf(width, lo), ratOf(width, hi), ratOf(width, at)}
	if at < hi {
		third := timesRat(smallRat(1, 3), lessRat(ratOf(width, at+1), ratOf(width, at)))
		numbers = append(numbers, third.Add(third, ratOf(width, at)))
	}
	for _, r := range []*big.Rat{smallRat(0, 1), smallRat(1, 1), smallRat(-1, 1), smallRat(int64(s.next()%13)-6, 1+int64(s.next()%4)), powerRat(smallRat(int64(s.next()%5), 2), 2)} {
		if isWithin(width, p, r) {
			numbers = append(numbers, r)
		}
	}
	return pick(s, numbers)
}

// somePointOf is a point of a box.
func somePointOf(s *spread, width int, b impl.Box) []*big.Rat {
	var point []*big.Rat
	for _, p := range b.Pairs {
		point = append(point, someNumberIn(s, width, p))
	}
	return point
}

// boundBeyond is a bound on one side of a number, next to it, some steps away, at a whole number beyond it, or infinite; way is -1 below it and 1 above it.
func boundBeyond(s *spread, width int, r *big.Rat, next int, way int) int {
	value, _ := r.Float64()
	whole := ordOf(width, float64(int(value)+way*int(1+s.next()%6)))
	far := [...]int{next, next + way*int(s.next()%9), next + way*int(s.next()%100000), way * topOf(width), whole, whole}[s.next()%6]
	if far*way < next*way || far*way > topOf(width) {
		return next
	}
	return far
}

// boxAround is a box that has a point.
func boxAround(s *spread, width int, point []*big.Rat) impl.Box {
	var b impl.Box
	for _, r := range point {
		around := besides(width, r)
		b.Pairs = append(b.Pairs, impl.Pair{Lo: boundBeyond(s, width, r, around.Lo, -1), Hi: boundBeyond(s, width, r, around.Hi, 1)})
	}
	return b
}

// solvedGraph is a graph with relations that hold at a point, at which all its nodes have values; equal ones where a number can be written that is one. False, if there is none.
func solvedGraph(s *spread, g impl.Graph, point []*big.Rat) (impl.Graph, bool) {
	all := outcomesOf(g, point)
	if slices.ContainsFunc(all, isState(2)) || slices.ContainsFunc(all, isState(3)) {
		return impl.Graph{}, false
	}
	out := copiedGraph(g)
	out.Rels = nil
	for range 1 + s.next()%4 {
		left, right := len(g.Nodes)-1-int(s.next()%uint64(min(len(g.Nodes), 4))), int(s.next()%uint64(len(g.Nodes)))
		if text, ok := impl.DecText(fracOf(all[left].value)); ok && impl.LangNumOk(text) && s.next()%2 == 0 {
			pad := slopePad{out.Nodes}
			out.Rels = append(out.Rels, impl.GraphRel{Kind: 3, Left: left, Right: pad.putNumber(text)})
			out.Nodes = pad.nodes
			continue
		}
		kind := 3
		if order := all[left].value.Cmp(all[right].value); order != 0 {
			kind = 1 + (order+1)/2
		}
		out.Rels = append(out.Rels, impl.GraphRel{Kind: kind, Left: left, Right: right})
	}
	return out, isGraph(out)
}
