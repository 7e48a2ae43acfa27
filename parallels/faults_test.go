package parallels_test

import (
	"slices"
	"strconv"
	"testing"

	"probecard/api"
	"probecard/faults"
	. "probecard/parallels"
)

// P15.1

// bits returns the text of truth values: 1 for true, 0 for false.
func bits(l []bool) string {
	var s []byte
	for _, is := range l {
		if is {
			s = append(s, '1')
		} else {
			s = append(s, '0')
		}
	}
	return string(s)
}

// expectFaults expects which faults a pattern detects.
func expectFaults(t *testing.T, name string, c api.Circuit, l []api.Fault, p api.Pattern, want []bool) {
	t.Helper()
	got, e := Faults(c, l, p)
	if e != api.OK || len(got) != len(l) {
		t.Fatalf("%s, %v: %d of %d faults with error %d", name, p, len(got), len(l), e)
	}
	for i, f := range l {
		if got[i] != want[i] {
			t.Errorf("%s, %v: fault %d, %s: %t", name, p, i, faults.Text(f), got[i])
		}
	}
}

// expectFaultsOf expects what the chapter's words say.
func expectFaultsOf(t *testing.T, name string, c api.Circuit, l []api.Fault, p api.Pattern) {
	t.Helper()
	expectFaults(t, name, c, l, p, detections(c, l, []api.Pattern{p})[0])
}

// TestFaultsExample has the chapter's example, and all faults of its circuit.
func TestFaultsExample(t *testing.T) {
	c, l := example(), list("0 0, 0 1, 2 1")
	for p, want := range map[string]string{"11": "100", "01": "011", "00": "001", "10": "001", "1X": "000", "X1": "000", "XX": "000", "Z0": "001", "0Z": "001", "Z1": "000"} {
		if got, e := Faults(c, l, patternOf(p)); bits(got) != want || e != api.OK {
			t.Errorf("%s: %s with error %d, not %s", p, bits(got), e, want)
		}
	}
	l = list("0 0, 0 1, 1 0, 1 1, 2 0, 2 1, 2.0 0, 2.0 1, 2.1 0, 2.1 1, wired 0 1 0, wired 0 1 1, strong 0 1, strong 1 0")
	for p, want := range map[string]string{"11": "10101010100000", "01": "01000101000110", "10": "00010100010101", "00": "00000100000000", "0X": "00000100000000", "X0": "00000100000000"} {
		if got, e := Faults(c, l, patternOf(p)); bits(got) != want || e != api.OK {
			t.Errorf("%s: %s with error %d, not %s", p, bits(got), e, want)
		}
	}
}

// sheet has all kinds of nodes but some gates; its nodes are 0 a, 1 b, 2 q, 3 n, 4 g, 5 t, 6 u, 7 s, 8 m, 9 z, 10 o, 11 x, 12 r, 13 h and 14 k.
const sheet = "INPUT(a); INPUT(b); q = DFF(s); n = NOT(a); g = AND(a, b, a); t = TRI(a, b); u = TRI(n, q); s = BUS(t, u, t); m = MUX(a, g, s); z = ZERO(); o = ONE(); x = XOR(q, z, o); r = DFF(t); h = NOR(r, x); k = BUF(t); OUTPUT(s); OUTPUT(m); OUTPUT(t); OUTPUT(a); OUTPUT(h); OUTPUT(h)"

// sheetFaults are faults of the sheet that the pattern 10 10 detects, and those that it does not. Without fault it shows the outputs 000111 and the next state 00.
const (
	found  = "0 0, 1 1, 2 0, 2.0 1, 12 1, 12.0 1, 8 1, 8.2 1, 11 1, 11.1 1, 11.0 0, 13 0, 13.0 1, 5 1, 5.1 1, 7 1, 9 1, 10 0, wired 0 1 0, wired 0 1 1, strong 0 1, strong 1 0, wired 2 3 0, strong 2 3, wired 7 10 0, wired 7 10 1, strong 7 10, strong 10 7, wired 9 10 0, wired 9 10 1"
	missed = "0 1, 1 0, 2 1, 2.0 0, 12 0, 12.0 0, 3 1, 3.0 0, 3.0 1, 4 1, 4.1 1, 4.0 0, 4.2 0, 8.0 0, 8.1 1, 11.2 1, 13.1 0, 14 1, 14.0 1, 5.0 0, 6 1, 6 0, 6.0 1, 6.1 0, 7.0 1, 7.1 1, 7.2 1, 7.0 0, 7.1 0, 9 0, 10 1, wired 2 3 1, strong 3 2, wired 9 12 1"
)

// TestFaultsSheet has faults at the outputs and the pins of all nodes of the sheet, in several orders.
func TestFaultsSheet(t *testing.T) {
	c, p := read(sheet), patternOf("10 10")
	l := slices.Concat(list(found), list(missed))
	n := len(list(found))
	r := random(151)
	for range 20 {
		order := r.permutation(len(l))
		var shuffled []api.Fault
		var want []bool
		for _, i := range order {
			shuffled, want = append(shuffled, l[i]), append(want, i < n)
		}
		expectFaults(t, "sheet", c, shuffled, p, want)
	}
	for i, f := range l {
		expectFaults(t, "alone", c, []api.Fault{f}, p, []bool{i < n})
	}
}

// TestFaultsUnknown has faults on nets without known values: on a bus without driver and on inputs.
func TestFaultsUnknown(t *testing.T) {
	// the nodes are 0 e, 1 d, 2 t, 3 s, 4 c, 5 q, 6 r and 7 k
	c := read("INPUT(e); INPUT(d); t = TRI(e, d); s = BUS(t); INPUT(c); q = DFF(s); r = DFF(c); k = BUF(s); OUTPUT(s); OUTPUT(c)")
	for _, x := range []struct{ pattern, faults, want string }{
		{"010 00", "5 1, 5.0 0, 5.0 1, 3 1, 3.0 0, 2 1, wired 3 4 0, wired 3 4 1, strong 3 4, strong 4 3, 4 1, 6.0 1, 6.0 0", "0000000000110"},
		{"011 00", "wired 3 4 0, wired 3 4 1, strong 3 4, strong 4 3, 4 0, 6.0 0, 3 0", "0000110"},
		{"111 00", "strong 4 3, strong 3 4, 3 0, 2 0, 5.0 0, 2.1 0, 2.0 0, 3.0 0, 0 0, 1 0, 6 1", "00111101010"},
		{"101 00", "strong 4 3, strong 3 4, wired 3 4 0, wired 3 4 1, 3 1, 5.0 1, 5.0 0, 6.0 0, 6.0 1", "111111010"},
		{"01Z 00", "6.0 0, 6.0 1, 4 1, 4 0, wired 3 4 1, strong 5 4", "000000"},
		{"X1X ZX", "3 0, 2.0 0, 2.0 1, 0 1, 6.0 1, 5.0 1", "000000"},
		{"11Z ZX", "3 0, 2.0 0, 2.0 1, 0 1, 6.0 1, 5.0 1, 5.0 0", "1000001"},
	} {
		got, e := Faults(c, list(x.faults), patternOf(x.pattern))
		if bits(got) != x.want || e != api.OK {
			t.Errorf("%s, %s: %s with error %d, not %s", x.pattern, x.faults, bits(got), e, x.want)
		}
	}
}

// counts returns numbers of faults, or of patterns, around those that a word holds.
func counts() []int {
	return []int{0, 1, 2, 3, 31, 62, 63, 64, 65, 66, 127, 128, 129, 130, 191, 192, 193, 500}
}

// TestFaultsCounts has lists of all lengths around those of whole words, with faults of the three models, repeated ones and only one.
func TestFaultsCounts(t *testing.T) {
	r := random(152)
	for _, c := range []api.Circuit{example(), plain(), read(sheet), r.circuit(30), r.circuit(60)} {
		l := all(c, api.Stuck, api.Wired, api.Strong)
		for _, n := range counts() {
			name := strconv.Itoa(n) + " faults"
			p := r.pattern(c, 2)
			expectFaultsOf(t, name, c, r.faults(n, l), p)
			expectFaultsOf(t, name, c, r.faults(n, l[:min(3, len(l))]), p)
			expectFaultsOf(t, name, c, slices.Repeat(r.faults(1, l), n), p)
			expectFaultsOf(t, name, c, r.faults(n, l), r.pattern(c, 4))
		}
	}
}

// TestFaultsAlone has a fault that is detected at each place between others that are not, and the reverse: lanes do not influence each other.
func TestFaultsAlone(t *testing.T) {
	c, p := example(), patternOf("11")
	for _, x := range []struct {
		fault, others string
		is            bool
	}{
		{"0 0", "0 1", true}, {"0 1", "0 0", false}, {"2.0 0", "2.0 1", true}, {"2 1", "2 0", false}, {"2.1 0", "wired 0 1 0", true}, {"strong 0 1", "2.1 0", false},
	} {
		for i := range 200 {
			l := slices.Repeat(list(x.others), 200)
			want := slices.Repeat([]bool{!x.is}, 200)
			l[i], want[i] = parsed(x.fault), x.is
			expectFaults(t, x.fault, c, l, p, want)
		}
	}
}

// TestFaultsSame has faults of the same nets in one word: stuck lines, both values of a bridge, and bridges with a net in common.
func TestFaultsSame(t *testing.T) {
	// the nodes are 0 a, 1 b, 2 d, 3 e, 4 s, 5 z and 6 k
	c := read("INPUT(a); INPUT(b); INPUT(d); INPUT(e); s = OR(a, b); z = AND(d, e); k = BUF(d); OUTPUT(a); OUTPUT(s); OUTPUT(z); OUTPUT(k)")
	for _, x := range []struct{ pattern, faults, want string }{
		{"1000", "wired 0 1 0, wired 0 1 1, wired 0 2 0, wired 0 2 1, strong 0 1, strong 1 0, 0 0, 0 1, strong 2 0, wired 1 2 1", "1011101010"},
		{"0011", "wired 0 2 0, wired 2 3 0, wired 2 3 1, wired 0 2 1, strong 2 0, strong 0 2, strong 3 0, 2 0, 2 1, 6.0 0, 6 0, 5.0 0", "100111110111"},
		{"0101", "strong 0 1, strong 0 1, 0 1, strong 0 1, 0 0, wired 0 1 1, wired 0 1 0, strong 1 0, strong 2 3, 2 1", "1111011111"},
	} {
		got, e := Faults(c, list(x.faults), patternOf(x.pattern))
		if bits(got) != x.want || e != api.OK {
			t.Errorf("%s, %s: %s with error %d, not %s", x.pattern, x.faults, bits(got), e, x.want)
		}
	}
}

// TestFaultsSmall has all faults of small circuits in one list, with all patterns, also with X and Z.
func TestFaultsSmall(t *testing.T) {
	seen := map[bool]int{}
	for i, c := range small(150, 14, 3) {
		l := all(c, api.Stuck, api.Wired, api.Strong)
		tests := allPatterns(c, 4)
		for k, want := range detections(c, l, tests) {
			expectFaults(t, "circuit "+strconv.Itoa(i), c, l, tests[k], want)
			for _, is := range want {
				seen[is]++
			}
		}
	}
	if seen[true] < 10000 || seen[false] < 10000 {
		t.Errorf("%v", seen)
	}
}

// TestFaultsRandom has random circuits with all their faults, or some of them repeatedly.
func TestFaultsRandom(t *testing.T) {
	r := random(153)
	for i, c := range circuits(250, 60) {
		l := all(c, api.Stuck, api.Wired, api.Strong)
		if i%2 == 0 {
			l = r.faults(200, l)
		}
		for range 2 {
			expectFaultsOf(t, "circuit "+strconv.Itoa(i), c, l, r.pattern(c, 4))
		}
		expectFaultsOf(t, "circuit "+strconv.Itoa(i), c, l, r.pattern(c, 2))
	}
}

// TestFaultsLimits has as many faults as there may be, and circuits of as many nodes as there may be.
func TestFaultsLimits(t *testing.T) {
	l := slices.Repeat(list("0 0, 0 1, 2 1, wired 0 1 1, strong 0 1, 2.1 0, 2.0 1, 2 0"), api.MaxFaults/8)
	expectFaults(t, "many faults", example(), l, patternOf("01"), slices.Repeat([]bool{false, true, true, true, true, false, true, false}, api.MaxFaults/8))
	for _, descends := range []bool{false, true} {
		c := chain(descends)
		inputs, end := netsOfChain(descends)
		var l []api.Fault
		var want []bool
		for i := range c.Nodes { // the value of the node after i inversions of 0
			net := inputs + i*(end-inputs)/(api.MaxNodes-1)
			for v := range api.Value(2) {
				l, want = append(l, api.Fault{Line: at(net, -1), Value: v}), append(want, v == api.Value(1-i%2))
			}
		}
		expectFaults(t, "a chain", c, l, patternOf("0"), want)
	}
}

// chain returns a circuit of an input and many Not nodes, each of which reads the node before it, or the one behind it. The last one is the output.
func chain(descends bool) api.Circuit {
	nodes := make([]api.Node, api.MaxNodes)
	for i := range nodes {
		from := i - 1
		if descends {
			from = i + 1
		}
		if from >= 0 && from < len(nodes) {
			nodes[i] = in(api.Not, from)
		}
	}
	_, end := netsOfChain(descends)
	return of([]int{end}, nodes...)
}

// netsOfChain returns the input and the output of a chain.
func netsOfChain(descends bool) (input, output int) {
	if descends {
		return api.MaxNodes - 1, 0
	}
	return 0, api.MaxNodes - 1
}
