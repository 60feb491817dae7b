package tests

import (
	"math"
	"slices"
	"strings"
	"testing"

	"loop.example/pinfold/impl"
)

// openWords are what FoldOpen is asked in words, and the code that it has.
type openWords struct {
	text, box string
	code      int
}

// checkOpenCases wants codes at both widths; where there is none, what stands in the search.
func checkOpenCases(t *testing.T, cases []openWords) {
	t.Helper()
	for _, c := range cases {
		for _, width := range bothWidths() {
			start := boxAs(t, width, c.box)
			f, code := checkOpen(t, c.text, width, impl.BoxBits(width, start), 5)
			if code != c.code {
				t.Errorf("%d: FoldOpen of %.300q over %s: code %d, not %d", width, c.text, c.box, code, c.code)
			}
			if code == 0 && (!sameFold(f, begunFold(mustProg(t, c.text), width, start, 5)) || !checkFold(t, f)) {
				t.Errorf("%d: FoldOpen of %.300q over %s: %s", width, c.text, c.box, foldString(f))
			}
		}
	}
}

// doubledProblem is a problem of x, taken twice so often that it has too many nodes with all bodies put in, though its graph has few.
func doubledProblem() string {
	return textWith("def a(x) = x + x", "def b(x) = a(a(x))", "def c(x) = b(b(x))", "def d(x) = c(c(x))", "def e(x) = d(d(x))", "var x", "e(x) = 1")
}

// summed is a sum of so many numbers, the first one of so many bytes, without blanks.
func summed(count int, first int) string {
	return strings.Repeat("1", first) + strings.Repeat("+1111111", count-1)
}

// ofMany is a problem with more unlike nodes than a graph may have.
func ofMany() string {
	text := "var x\n"
	for at := range 12 {
		text += strings.Repeat("x*", at+1) + "x=" + strings.Repeat("1", at+1) + "+" + strings.Repeat("x^8-", 2*at) + "x^" + string(rune('0'+at%8)) + "\n"
	}
	return text
}

// longAsWritten is a text without blanks that has just so many bytes as it is written by ProgText, from 7900 to 8050.
func longAsWritten(size int) string {
	text := "var x\n" + strings.Repeat(summed(44, 7)+"="+summed(44, 7)+"\n", 8) + "x=" + summed(20, 7) + "\n"
	// As they are written these lines have 877 bytes and a line feed each, but for the last one, which has 201.
	rest := size - 6 - 8*878 - 202
	for _, name := range []string{"a", "b", "c", "d", "e", "f", "g", "h", "i", "j", "k", "l"} {
		// A definition has nine bytes beside its number, and leaves room for one more, or none.
		digits := min(60, rest-9)
		if rest-9-digits > 0 {
			digits = min(digits, rest-9-10)
		}
		if digits > 0 {
			text, rest = text+"def "+name+"="+strings.Repeat("1", digits)+"\n", rest-9-digits
		}
	}
	return text
}

func TestSearchesThatBegin(t *testing.T) {
	checkOpenCases(t, []openWords{
		{"var x\nx^2 = 4\n", "-8..8", 0},
		{"x = 1\nvar x", "-inf..inf", 0},
		{"# a circle\n\ndef sq(a) = a*a\nvar x\nvar y\nsq(x)+sq(y)=1\n", "-8..8 0..1'", 0},
		{"var a\nvar b\nvar c\nvar d\nvar e\nvar f\na = f\n", "1 2 3 4 5 6", 0},
		{"var x\n1 = 2\n", "3", 0},
	})
}

// Each code by itself.
func TestSearchesThatDoNotBegin(t *testing.T) {
	for _, text := range []string{"", "var x\n", "x = 1\n", "var x\nx = y\n", "var x\nx == 1\n", "{", strings.Repeat(" ", 8001), "var x\nx = 01\n"} {
		checkOpenCases(t, []openWords{{text, "-8..8", 1}})
	}
	for text, want := range map[string]int{doubledProblem(): impl.GraphTooLong, ofMany(): impl.GraphTooMany} {
		if _, code := graphOf(mustProg(t, text)); code != want {
			t.Fatalf("the test itself has code %d for the graph of %q", code, text)
		}
	}
	checkOpenCases(t, []openWords{
		{doubledProblem(), "-8..8", 2},
		{ofMany(), "-8..8", 2},
		{"var x\nx=" + summed(49, 7) + "\n", "-8..8", 0},
		{"var x\nvar y\nx = y\n", "-8..8", 4},
		{"var x\nx = 1\n", "-8..8 1", 4},
		{"var x\nvar y\nx = y\n", "-8..8 1 2 3 4 5", 4},
	})
}

// A problem whose own text is too long, though the one that was read is not: a line of LangMaxLine bytes may be, and a text of LangMaxText.
func TestSearchesOfProblemsWithLongTexts(t *testing.T) {
	for first, code := range map[int]int{7: 0, 8: 0, 9: 0, 10: 0, 11: 2, 12: 2, 60: 2} {
		text := "var x\n" + summed(50, first) + "=" + summed(50, 7) + "\n"
		line := linesOf(impl.ProgText(mustProg(t, text)))[1]
		if len(line) != 990+first {
			t.Fatalf("the test itself has a line of %d bytes", len(line))
		}
		checkOpenCases(t, []openWords{{text, "0..1", code}, {text + "def f = 1\n", "0..1", code}})
	}
	for size, code := range map[int]int{7900: 0, 7999: 0, 8000: 0, 8001: 2, 8002: 2, 8050: 2} {
		text := longAsWritten(size)
		if p := mustProg(t, text); len(impl.ProgText(p)) != size {
			t.Fatalf("the test itself has a problem of %d bytes, not %d", len(impl.ProgText(p)), size)
		}
		checkOpenCases(t, []openWords{{text, "0..1", code}})
	}
}

// Patterns of each count, over each count of variables.
func TestSearchesByTheirPatterns(t *testing.T) {
	for vars := 1; vars <= 6; vars++ {
		text := textOver(strings.Join(numbered("v", vars), " "), "v0 <= 2")
		for count := range 16 {
			for _, width := range bothWidths() {
				want := 4
				switch {
				case count == 0 || count%2 != 0 || count > 12:
					want = 3
				case count == 2*vars:
					want = 0
				}
				if _, code := checkOpen(t, text, width, make([]uint64, count), 1); code != want {
					t.Errorf("%d: FoldOpen of %q with %d patterns: code %d, not %d", width, text, count, code, want)
				}
			}
		}
	}
}

// Patterns that are no floats, or make no box, and widths that are none.
func TestSearchesWithoutABox(t *testing.T) {
	const text = "var x\nvar y\nx = y\n"
	good := map[int][]uint64{32: {0x3f800000, 0x40000000, 0x80000000, 0x7f800000}, 64: {1 << 62, 1<<62 + 1, 1 << 63, 0x7ff << 52}}
	wrong := map[int][]uint64{32: {0x7f800001, 0xffc00000, 1 << 32, 1 << 63, math.MaxUint64}, 64: {0x7ff<<52 + 1, 0xfff8 << 48, math.MaxUint64}}
	infinite := map[int]uint64{32: 0x7f800000, 64: 0x7ff << 52}
	for _, width := range bothWidths() {
		if f, code := checkOpen(t, text, width, good[width], 1); code != 0 || f.Start.Pairs[1].Lo != 0 {
			t.Errorf("%d: code %d, %s", width, code, foldString(f))
		}
		refuse := func(width int, bits []uint64) {
			if _, code := checkOpen(t, text, width, bits, 1); code != 3 {
				t.Errorf("%d: FoldOpen with %v: code %d", width, bits, code)
			}
		}
		for at := range good[width] {
			for _, pattern := range wrong[width] {
				bits := slices.Clone(good[width])
				bits[at] = pattern
				refuse(width, bits)
			}
		}
		lo, hi := good[width][0], good[width][1]
		refuse(width, []uint64{hi, lo, lo, hi})
		refuse(width, []uint64{lo, hi, hi, lo})
		refuse(width, []uint64{lo, hi, infinite[width], infinite[width]})
		refuse(width, nil)
		for _, none := range wrongWidths() {
			refuse(none, good[width])
			refuse(none, nil)
		}
	}
}

// Where several fit the first one is told.
func TestSearchesWithSeveralFaults(t *testing.T) {
	texts := []openWords{{"var x\nx = \n", "", 1}, {doubledProblem(), "", 2}, {"var x\nx = 1\n", "", 0}}
	for _, width := range bothWidths() {
		one := impl.BoxBits(width, boxAs(t, width, "0..1"))
		for _, text := range texts {
			for _, c := range []struct {
				width int
				bits  []uint64
				code  int
			}{{width, one, 0}, {width, slices.Concat(one, one), 4}, {width, one[:1], 3}, {width, []uint64{one[1], one[0]}, 3}, {width, []uint64{one[1], one[0], 0, 0}, 3}, {width, nil, 3}, {7, one, 3}, {0, slices.Concat(one, one), 3}} {
				want := c.code
				if text.code != 0 {
					want = text.code
				}
				for _, between := range []int{math.MinInt, 1, math.MaxInt} {
					f, code := checkOpen(t, text.text, c.width, c.bits, between)
					if code != want || code != 0 && !isNoFold(f) {
						t.Errorf("FoldOpen of %.300q, %d, %v: code %d, not %d, %s", text.text, c.width, c.bits, code, want, foldString(f))
					}
				}
			}
		}
	}
}

func TestSearchesByBetween(t *testing.T) {
	for between, want := range map[int]int{math.MinInt: 1, -5: 1, -1: 1, 0: 1, 1: 1, 2: 2, 17: 17, 999999: 999999, 1000000: 1000000, 1000001: 1000000, math.MaxInt: 1000000} {
		for _, width := range bothWidths() {
			f, code := checkOpen(t, "var x\nx = 1\n", width, impl.BoxBits(width, boxAs(t, width, "0..1")), between)
			if code != 0 || f.Between != want || !checkFold(t, f) {
				t.Errorf("%d: FoldOpen with %d: code %d, %d", width, between, code, f.Between)
			}
		}
	}
}

// Texts by chance, with and without faults, over boxes by chance. Promise 72: a search begins with what it was given.
func TestManySearchesThatBegin(t *testing.T) {
	t.Parallel()
	s := spread{277}
	codes := [5]int{}
	for at := range 160 {
		text := someText(&s)
		if at%2 == 0 {
			text = textOfProg(someProg(&s, []int{5, 40}[at/2%2]))
		}
		p, _ := readProg(text)
		for _, width := range bothWidths() {
			start := someBoxOf(&s, width, len(p.Vars))
			if at%4 == 1 {
				start = someBoxOf(&s, width, 1+int(s.next()%6))
			}
			bits := impl.BoxBits(width, start)
			if at%7 == 6 && len(bits) > 0 {
				bits[s.next()%uint64(len(bits))] = s.next() | 0x7f800000
			}
			start, _ = impl.BoxOf(width, bits)
			between := int(s.next()%40) - 5
			f, code := checkOpen(t, text, width, bits, between)
			codes[code]++
			if code == 0 && (!checkFold(t, f) || !sameBox(f.Start, start) || len(f.Waiting) != 1 || !sameBox(f.Waiting[0], start) || len(f.Told) != 0 || f.Used != 0 || !sameProg(f.Prog, p)) {
				t.Errorf("FoldOpen of %q: %s", text, foldString(f))
			}
		}
	}
	for code, least := range [...]int{100, 60, 6, 6, 6} {
		if codes[code] < least {
			t.Errorf("only %d of code %d", codes[code], code)
		}
	}
}
