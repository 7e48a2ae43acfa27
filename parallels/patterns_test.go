package parallels_test

import (
	"slices"
	"strconv"
	"testing"

	"probecard/api"
	"probecard/faults"
	. "probecard/parallels"
)

// P15.2

// expectPatterns expects which patterns detect a fault.
func expectPatterns(t *testing.T, name string, c api.Circuit, f api.Fault, l []api.Pattern, want []bool) {
	t.Helper()
	got, e := Patterns(c, f, l)
	if e != api.OK || len(got) != len(l) {
		t.Fatalf("%s, %s: %d of %d patterns with error %d", name, faults.Text(f), len(got), len(l), e)
	}
	for i, p := range l {
		if got[i] != want[i] {
			t.Errorf("%s, %s: pattern %d, %v: %t", name, faults.Text(f), i, p, got[i])
		}
	}
}

// column returns the element i of each row.
func column(rows [][]bool, i int) []bool {
	var l []bool
	for _, row := range rows {
		l = append(l, row[i])
	}
	return l
}

// expectPatternsOf expects for each fault what the chapter's words say.
func expectPatternsOf(t *testing.T, name string, c api.Circuit, l []api.Fault, tests []api.Pattern) {
	t.Helper()
	rows := detections(c, l, tests)
	for i, f := range l {
		expectPatterns(t, name, c, f, tests, column(rows, i))
	}
}

// expectBits expects the texts of what patterns detect.
func expectBits(t *testing.T, c api.Circuit, fault, tests, want string) {
	t.Helper()
	if got, e := Patterns(c, parsed(fault), patterns(tests)); bits(got) != want || e != api.OK {
		t.Errorf("%s, %s: %s with error %d, not %s", fault, tests, bits(got), e, want)
	}
}

// TestPatternsExample has the chapter's example, and all faults of its circuit.
func TestPatternsExample(t *testing.T) {
	for f, want := range map[string]string{
		"0 0": "1000000000", "0 1": "0100000000", "1 0": "1000000000", "1 1": "0001000000", "2 0": "1000000000", "2 1": "0111000110",
		"2.0 0": "1000000000", "2.0 1": "0100000000", "2.1 0": "1000000000", "2.1 1": "0001000000",
		"wired 0 1 0": "0000000000", "wired 0 1 1": "0101000000", "strong 0 1": "0100000000", "strong 1 0": "0001000000",
	} {
		expectBits(t, example(), f, "11, 01, 00, 10, 1X, X1, XX, Z0, 0Z, Z1", want)
	}
}

// TestPatternsSheet has the sheet, which has Dff, Tri and Bus nodes, with patterns for faults at nodes of its kinds.
func TestPatternsSheet(t *testing.T) {
	// Without fault the outputs s t m a h h and the next states are 000111 00, 000100 00, 111111 11, 00Z000 0X, 10Z000 1X, 10Z0XX 1X, 111100 11, XXXX11 XX, XXXZ00 XX and XXX100 XX.
	const tests = "10 10, 10 11, 11 10, 00 01, 01 11, 0X 1Z, 11 00, X1 10, Z0 X1, 1Z 00"
	for f, want := range map[string]string{
		"0 0": "1110001001", "0 1": "0001110000",
		"7 0": "0010111000", "7 1": "1101000000", "7.1 0": "0000110000", "5.0 0": "0000000000",
		"2 1": "0001001001", "2.0 0": "0010111000", "2.0 1": "1101000000", "12.0 0": "0010001000", "12.0 1": "1100000000",
		"9 1": "1010001101", "wired 0 1 0": "1100000000", "strong 1 0": "1100000000", "wired 7 10 0": "1000000000",
	} {
		expectBits(t, read(sheet), f, tests, want)
	}
}

// TestPatternsValues has all values at the pins of a Tri, whose Bus is shown, and at a Dff.
func TestPatternsValues(t *testing.T) {
	c := read("INPUT(e); INPUT(d); t = TRI(e, d); s = BUS(t); q = DFF(s); OUTPUT(s)")
	const tests = "00 0, 10 0, X0 0, Z0 0, 01 1, 11 1, X1 1, Z1 1, 0X X, 1X X, XX X, ZX X, 0Z Z, 1Z Z, XZ Z, ZZ Z"
	for f, want := range map[string]string{
		"3 1":   "0100000000000000",
		"3 0":   "0000010000000000",
		"3.0 1": "0100000000000000",
		"2 0":   "0000010000000000",
		"0 0":   "0000000000000000", // the bus without driver is neither 0 nor 1
		"2.1 1": "0100000000000000",
		"4.0 1": "0100000000000000", // what the Dff reads
		"4.0 0": "0000010000000000",
		"4 1":   "0000000000000000",
	} {
		expectBits(t, c, f, tests, want)
	}
}

// TestPatternsCounts has lists of all lengths around those of whole words, of many patterns, repeated ones and only one.
func TestPatternsCounts(t *testing.T) {
	r := random(154)
	for _, c := range []api.Circuit{example(), plain(), read(sheet), r.circuit(30), r.circuit(60)} {
		l := r.faults(12, all(c, api.Stuck, api.Wired, api.Strong))
		for _, n := range counts() {
			name := strconv.Itoa(n) + " patterns"
			expectPatternsOf(t, name, c, l, r.patterns(n, c, 2))
			expectPatternsOf(t, name, c, l, r.patterns(n, c, 4))
			expectPatternsOf(t, name, c, l, slices.Repeat(r.patterns(1, c, 2), n))
		}
	}
}

// TestPatternsAlone has a pattern that detects a fault at each place between others that do not, and the reverse.
func TestPatternsAlone(t *testing.T) {
	for _, x := range []struct {
		fault, pattern, others string
		is                     bool
	}{
		{"0 0", "11", "01", true}, {"0 0", "1X", "11", false}, {"2 1", "0Z", "XX", true}, {"wired 0 1 1", "11", "01", false}, {"strong 0 1", "01", "10", true},
	} {
		for i := range 200 {
			l := slices.Repeat(patterns(x.others), 200)
			want := slices.Repeat([]bool{!x.is}, 200)
			l[i], want[i] = patternOf(x.pattern), x.is
			expectPatterns(t, "alone", example(), parsed(x.fault), l, want)
		}
	}
}

// TestPatternsConstants has circuits without inputs, whose faults are detected by every pattern.
func TestPatternsConstants(t *testing.T) {
	c := read("o = ONE(); z = ZERO(); n = NOT(o); OUTPUT(o); OUTPUT(n)")
	for _, n := range counts() {
		for f, is := range map[string]bool{"0 0": true, "0 1": false, "1 1": false, "2.0 0": true, "2 1": true, "wired 0 1 0": true, "wired 1 2 1": false} {
			expectPatterns(t, "constants", c, parsed(f), make([]api.Pattern, n), slices.Repeat([]bool{is}, n))
		}
	}
}

// TestPatternsSmall has all patterns of small circuits in one list, also with X and Z, for all faults.
func TestPatternsSmall(t *testing.T) {
	for i, c := range small(100, 14, 3) {
		expectPatternsOf(t, "circuit "+strconv.Itoa(i), c, all(c, api.Stuck, api.Wired, api.Strong), allPatterns(c, 4))
	}
}

// TestPatternsRandom has random circuits with some of their faults.
func TestPatternsRandom(t *testing.T) {
	r := random(155)
	for i, c := range circuits(250, 60) {
		l := r.faults(20, all(c, api.Stuck, api.Wired, api.Strong))
		expectPatternsOf(t, "circuit "+strconv.Itoa(i), c, l, r.patterns(r.below(150), c, 4))
	}
}

// TestPatternsLimits has as many patterns as there may be, and circuits of as many nodes as there may be.
func TestPatternsLimits(t *testing.T) {
	l := slices.Repeat(patterns("11, 01, 00, 10, 1X, X1, XX, Z0"), api.MaxTests/8)
	expectPatterns(t, "many patterns", example(), parsed("2 1"), l, slices.Repeat([]bool{false, true, true, true, false, false, false, true}, api.MaxTests/8))
	for _, descends := range []bool{false, true} {
		c := chain(descends)
		input, end := netsOfChain(descends)
		middle := (input + end + 1) / 2
		for _, net := range []int{input, middle, end} {
			for v := range api.Value(2) {
				even := (net-input)%2 == 0 // whether the net has the value of the input
				var want []bool
				for _, p := range patterns("0, 1, X, Z") {
					value := p.In[0]
					want = append(want, value <= api.V1 && (value != v) == even)
				}
				expectPatterns(t, "a chain", c, api.Fault{Line: at(net, -1), Value: v}, slices.Repeat(patterns("0, 1, X, Z"), 30), slices.Repeat(want, 30))
			}
		}
	}
}
