package tests

import "testing"

// Each row of what is short, on both sides, and where two of them fit at once.
func TestShortSlopes(t *testing.T) {
	checkSlopeCases(t, []slopeCase{
		// 0 + b, b + 0, and both.
		{"x y", "x + y = 7", 0, "n4 = 1; n5 = 0", "n4"},
		{"x y", "x + y = 7", 1, "n4 = 0; n5 = 1", "n5"},
		{"x", "7 + -x = 8", 0, "n5 = 1; n6 = 0; n7 = -n5", "n7"},
		{"x", "-x + 7 = 8", 0, "n5 = 1; n6 = -n5; n7 = 0", "n6"},
		{"x", "7 + 8 = x", 0, "n4 = 0", "n4"},
		// b - 0, 0 - b, and both.
		{"x y", "x - y = 7", 0, "n4 = 1; n5 = 0", "n4"},
		{"x y", "x - y = 7", 1, "n4 = 0; n5 = 1; n6 = -n5", "n6"},
		{"x", "7 - -x = 8", 0, "n5 = 1; n6 = 0; n7 = -n5; n8 = -n7", "n8"},
		{"x", "-x - 7 = 8", 0, "n5 = 1; n6 = -n5; n7 = 0", "n6"},
		{"x", "7 - 8 = x", 0, "n4 = 0", "n4"},
		{"x y", "y - y = 7", 0, "n4 = 0", "n4"},
		// - 0.
		{"x y", "-y = 7", 0, "n4 = 0", "n4"},
		{"x", "-(-(-7)) = x", 0, "n5 = 0", "n5"},
		// 0 b and b 0, 1 b and b 1.
		{"x y", "x * y = 7", 0, "n4 = 1; n5 = 0", "n1"},
		{"x y", "x * y = 7", 1, "n4 = 0; n5 = 1", "n0"},
		{"x y", "y * y = 7", 0, "n4 = 0", "n4"},
		{"x", "3 * x = 7", 0, "n4 = 1; n5 = 0", "n1"},
		{"x", "x * 3 = 7", 0, "n4 = 1; n5 = 0", "n1"},
		{"x", "3 * x^2 = 7", 0, "n5 = 1; n6 = 0; n7 = 2; n8 = n7 * n0; n9 = n1 * n8", "n9"},
		{"x", "x^2 * 3 = 7", 0, "n5 = 1; n6 = 2; n7 = n6 * n0; n8 = 0; n9 = n7 * n2", "n9"},
		// Two at once: 1 by 1, 0 by 1, 1 by 0, 0 by 0.
		{"x", "1 * x = 7", 0, "n4 = 0", "n1"},
		{"x", "x * 1 = 7", 0, "n4 = 0", "n1"},
		{"x", "x * 0 = 7", 0, "n4 = 1", "n1"},
		{"x", "0 * x = 7", 0, "n4 = 1", "n1"},
		{"x y", "y * 1 = 7", 0, "n5 = 0", "n5"},
		{"x y", "1 * y = 7", 0, "n5 = 0", "n5"},
		{"x y", "y * 0 = 7", 0, "", "n2"},
		{"x y", "0 * y = 7", 0, "", "n2"},
		{"x", "1 * 1 = x", 0, "n3 = 0", "n3"},
		{"x", "0 * 0 = x", 0, "", "n1"},
		{"x", "0 * 1 = x", 0, "", "n1"},
		{"x", "1 * 0 = x", 0, "", "n2"},
		// 1 b, where b is more than a number.
		{"x", "x^2 * 1 = 7", 0, "n5 = 2; n6 = n5 * n0; n7 = 0", "n6"},
		{"x", "1 * x^2 = 7", 0, "n5 = 0; n6 = 2; n7 = n6 * n0", "n7"},
		{"x", "x^2 * 0 = 7", 0, "n5 = 1; n6 = 2; n7 = n6 * n0", "n2"},
		{"x", "0 * x^2 = 7", 0, "n5 = 1; n6 = 2; n7 = n6 * n0", "n1"},
		{"x", "x^2 / 1 = 7", 0, "n5 = 2; n6 = n5 * n0; n7 = 0; n8 = n2^2; n9 = n6 / n8", "n9"},
		{"x", "1 / x^2 = 7", 0, "n5 = 0; n6 = 2; n7 = n6 * n0; n8 = -n7; n9 = n2^2; n10 = n8 / n9", "n10"},
	})
}

// Numbers that are 0 or 1 and written otherwise leave nothing out.
func TestSlopesOfNumbersWrittenOtherwise(t *testing.T) {
	for _, one := range []string{"1.0", "1e0", "1.000", "10e-1", "0.1e1"} {
		checkSlopeCases(t, []slopeCase{
			{"x", "x^2 * " + one + " = 7", 0, "n5 = 1; n6 = 2; n7 = n6 * n0; n8 = 0; n9 = n7 * n2", "n9"},
			{"x", "x^3 / " + one + " = 7", 0, "n5 = 1; n6 = 3; n7 = n0^2; n8 = n6 * n7; n9 = 0; n10 = n8 * n2; n11 = n2^2; n12 = n10 / n11", "n12"},
			// The slope of the other factor is just 1, so that is left out.
			{"x", "x * " + one + " = 7", 0, "n4 = 1; n5 = 0", "n1"},
			{"x", one + " * x = 7", 0, "n4 = 1; n5 = 0", "n1"},
			{"x", one + " / x = 7", 0, "n4 = 1; n5 = 0; n6 = -n1; n7 = n0^2; n8 = n6 / n7", "n8"},
			{"x", "-x * " + one + " = 7", 0, "n5 = 1; n6 = -n5; n7 = 0; n8 = n6 * n2", "n8"},
			{"x", one + " * -x = 7", 0, "n5 = 1; n6 = 0; n7 = -n5; n8 = n1 * n7", "n8"},
		})
	}
	for _, nought := range []string{"0.0", "0e0", "0.00", "0e5", "0e-400"} {
		checkSlopeCases(t, []slopeCase{
			{"x", "x^2 * " + nought + " = 7", 0, "n5 = 1; n6 = 2; n7 = n6 * n0; n8 = 0; n9 = n7 * n2", "n9"},
			{"x", nought + " * -x = 7", 0, "n5 = 1; n6 = 0; n7 = -n5; n8 = n1 * n7", "n8"},
			{"x", "x * " + nought + " = 7", 0, "n4 = 1; n5 = 0", "n1"},
			{"x", nought + " / x = 7", 0, "n4 = 1; n5 = 0; n6 = -n1; n7 = n0^2; n8 = n6 / n7", "n8"},
			{"x", "x / " + nought + " = 7", 0, "n4 = 1; n5 = 0; n6 = n1^2; n7 = n1 / n6", "n7"},
			{"x", nought + " = x", 0, "n2 = 0", "n2"},
			{"x", nought + "^3 = x", 0, "n3 = 0", "n3"},
			// The slope of what is 0 is just 0, however that is written.
			{"x", "-" + nought + " = x", 0, "n3 = 0", "n3"},
		})
	}
	// A number that is another one with the same beginning, and 2 that is written otherwise.
	checkSlopeCases(t, []slopeCase{
		{"x", "-x * 10 = 7", 0, "n5 = 1; n6 = -n5; n7 = 0; n8 = n6 * n2", "n8"},
		{"x", "-x * 0.1 = 7", 0, "n5 = 1; n6 = -n5; n7 = 0; n8 = n6 * n2", "n8"},
		{"x", "x^2 = 2.0", 0, "n3 = 1; n4 = 2; n5 = n4 * n0", "n5"},
		{"x", "x^3 = 3e0", 0, "n3 = 1; n4 = 3; n5 = n0^2; n6 = n4 * n5", "n6"},
		{"x", "sqrt(x) = 2.0", 0, "n3 = 1; n4 = 2; n5 = n4 * n1; n6 = n3 / n5", "n6"},
	})
}

// What is there already is not laid down again: numbers, powers, products, quotients, and what stands for the slope itself.
func TestSlopesOfNodesThatAreThere(t *testing.T) {
	checkSlopeCases(t, []slopeCase{
		{"x", "x = 1", 0, "", "n1"},
		{"x", "5 = 0", 0, "", "n2"},
		{"x", "x^2 = 2 * x", 0, "n4 = 1", "n3"},
		{"x", "x^2 = 2", 0, "n3 = 1; n4 = n2 * n0", "n4"},
		// x * 2 is another node than 2 * x.
		{"x", "x^2 = x * 2", 0, "n4 = 1; n5 = n2 * n0", "n5"},
		{"x", "x^3 = x^2", 0, "n3 = 1; n4 = 3; n5 = n4 * n2", "n5"},
		{"x", "x^2 + x^3 = 7", 0, "n5 = 1; n6 = 2; n7 = n6 * n0; n8 = 3; n9 = n8 * n1; n10 = n7 + n9", "n10"},
		{"x", "x * x = x + x", 0, "n3 = 1", "n2"},
		{"x", "1 / x = -1 / x^2", 0, "n6 = 0", "n5"},
		{"x", "sqrt(x) = 1 / (2 * sqrt(x))", 0, "", "n5"},
		{"x", "-x = -1", 0, "", "n3"},
		{"x", "x - x = 1 - 1", 0, "", "n3"},
		// The same within one slope: two powers, two roots, two factors.
		{"x", "x^3 + 3 * x^2 = 7", 0, "n7 = 1; n8 = 0; n9 = 2; n10 = n9 * n0; n11 = n2 * n10; n12 = n4 + n11", "n12"},
		{"x", "sqrt(x) * sqrt(x) = 7", 0, "n4 = 1; n5 = 2; n6 = n5 * n1; n7 = n4 / n6; n8 = n7 * n1; n9 = n1 * n7; n10 = n8 + n9", "n10"},
		{"x", "x^2 / x^2 = 7", 0, "n4 = 1; n5 = 2; n6 = n5 * n0; n7 = n6 * n1; n8 = n1 * n6; n9 = n7 - n8; n10 = n1^2; n11 = n9 / n10", "n11"},
		// A part that stands in two places has one slope.
		{"x", "-x^2 - x^2 = 7", 0, "n5 = 1; n6 = 2; n7 = n6 * n0; n8 = -n7; n9 = n8 - n7", "n9"},
	})
}

// 0 and 1 are laid down though what they were for is left out, and only the one that comes up.
func TestNumbersOfSlopesAreLaidDown(t *testing.T) {
	checkSlopeCases(t, []slopeCase{
		{"x y", "x * y = 7", 0, "n4 = 1; n5 = 0", "n1"},
		{"x y", "x + y = 7", 0, "n4 = 1; n5 = 0", "n4"},
		{"x", "(x * x)^0 = 7", 0, "n4 = 1; n5 = n0 + n0; n6 = 0", "n6"},
		{"x", "5 * x = 7", 0, "n4 = 1; n5 = 0", "n1"},
		{"x y", "x^0 * y = 7", 0, "n5 = 1; n6 = 0", "n6"},
		{"x y", "0 * (x * y) = 7", 0, "n6 = 1", "n2"},
		{"x", "0 * x^8 = 7", 0, "n5 = 1; n6 = 8; n7 = n0^7; n8 = n6 * n7", "n1"},
		{"x", "x^3 * x^0 = 7", 0, "n5 = 1; n6 = 3; n7 = n0^2; n8 = n6 * n7; n9 = 0; n10 = n8 * n2", "n10"},
		{"x", "x^1 = 7", 0, "n3 = 1", "n3"},
		{"x y z", "z - x = 7", 1, "n5 = 0", "n5"},
	})
}
