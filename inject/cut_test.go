package inject_test

import (
	"slices"
	"strconv"
	"strings"
	"testing"

	"probecard/api"
	"probecard/benches"
	"probecard/faults"
	. "probecard/inject"
	"probecard/netlists"
)

// P13.5

// text returns the text of a circuit in one line.
func text(c api.Circuit) string {
	s, e := benches.Write(c)
	if e != api.OK {
		return "error " + strconv.Itoa(int(e))
	}
	return strings.ReplaceAll(strings.TrimSuffix(s, "\n"), "\n", "; ")
}

// expectCut expects from Cut what the chapter's words say for a valid fault.
func expectCut(t *testing.T, name string, c api.Circuit, f api.Fault) {
	t.Helper()
	d, e := Cut(c, f)
	if want := cutOf(c, f); e != api.OK || !netlists.Same(d, want) || netlists.Check(d) != api.OK {
		t.Errorf("%s: %s: %s with error %d, not %s", name, faults.Text(f), text(d), e, text(want))
	}
}

// expectEdits expects that Cut makes of a text the same text with some lines replaced by others, of which the last one may have more lines.
func expectEdits(t *testing.T, circuit, fault string, edits ...string) {
	t.Helper()
	want := "; " + circuit
	for i := 0; i < len(edits); i += 2 {
		if !strings.Contains(want, "; "+edits[i]) {
			t.Errorf("%s: no line %s", fault, edits[i])
		}
		want = strings.ReplaceAll(want, "; "+edits[i], "; "+edits[i+1])
	}
	want = strings.TrimPrefix(want, "; ")
	if d, e := Cut(read(circuit), parsed(fault)); text(d) != want || e != api.OK {
		t.Errorf("%s: %s with error %d, not %s", fault, text(d), e, want)
	}
	expectCut(t, circuit, read(circuit), parsed(fault))
}

func TestCutExample(t *testing.T) {
	d, e := Cut(example(), parsed("stuck 2.1 1"))
	want := api.Circuit{
		Nodes: []api.Node{in(api.Input), in(api.Input), in(api.And, 0, 3), in(api.One)},
		Names: []string{"a", "b", "g", "fault0"},
		Outs:  []int{2},
	}
	if !netlists.Same(d, want) || e != api.OK {
		t.Errorf("%v with error %d", d, e)
	}
}

// TestCutStuck has lines at the outputs and the pins of all nodes of the sheet.
func TestCutStuck(t *testing.T) {
	zero, one := "k = BUF(t); fault0 = ZERO()", "k = BUF(t); fault0 = ONE()"
	for fault, edits := range map[string][]string{
		// outputs that are read by pins of gates, Dff and Tri nodes, twice by one node, and by outputs
		"stuck 0 0":  {"k = BUF(t)", zero, "n = NOT(a)", "n = NOT(fault0)", "g = AND(a, b, a)", "g = AND(fault0, b, fault0)", "t = TRI(a, b)", "t = TRI(fault0, b)", "m = MUX(a", "m = MUX(fault0", "OUTPUT(a)", "OUTPUT(fault0)"},
		"stuck 1 1":  {"k = BUF(t)", one, "g = AND(a, b, a)", "g = AND(a, fault0, a)", "t = TRI(a, b)", "t = TRI(a, fault0)"},
		"stuck 2 0":  {"k = BUF(t)", zero, "u = TRI(n, q)", "u = TRI(n, fault0)", "x = XOR(q", "x = XOR(fault0"},
		"stuck 7 1":  {"k = BUF(t)", one, "q = DFF(s)", "q = DFF(fault0)", "m = MUX(a, g, s)", "m = MUX(a, g, fault0)", "OUTPUT(s)", "OUTPUT(fault0)"},
		"stuck 9 0":  {"k = BUF(t)", zero, "x = XOR(q, z, o)", "x = XOR(q, fault0, o)"},
		"stuck 10 0": {"k = BUF(t)", zero, "x = XOR(q, z, o)", "x = XOR(q, z, fault0)"},
		"stuck 12 1": {"k = BUF(t)", one, "h = NOR(r, x)", "h = NOR(fault0, x)"},
		"stuck 13 1": {"k = BUF(t)", one, "OUTPUT(h)", "OUTPUT(fault0)"}, // twice an output
		"stuck 14 0": {"k = BUF(t)", zero},                               // no readers
		// outputs of Tri nodes
		"stuck 5 1": {"k = BUF(t)", "k = BUF(fault0); fault0 = ONE(); fault1 = ONE(); fault2 = TRI(fault1, fault0)", "s = BUS(t, u, t)", "s = BUS(fault2, u, fault2)", "r = DFF(t)", "r = DFF(fault0)", "OUTPUT(t)", "OUTPUT(fault0)"},
		"stuck 6 0": {"k = BUF(t)", "k = BUF(t); fault0 = ZERO(); fault1 = ONE(); fault2 = TRI(fault1, fault0)", "s = BUS(t, u, t)", "s = BUS(t, fault2, t)"},
		// pins
		"stuck 2.0 1":  {"k = BUF(t)", one, "q = DFF(s)", "q = DFF(fault0)"},
		"stuck 3.0 0":  {"k = BUF(t)", zero, "n = NOT(a)", "n = NOT(fault0)"},
		"stuck 4.0 0":  {"k = BUF(t)", zero, "g = AND(a, b, a)", "g = AND(fault0, b, a)"},
		"stuck 4.1 0":  {"k = BUF(t)", zero, "g = AND(a, b, a)", "g = AND(a, fault0, a)"},
		"stuck 4.2 1":  {"k = BUF(t)", one, "g = AND(a, b, a)", "g = AND(a, b, fault0)"},
		"stuck 5.0 0":  {"k = BUF(t)", zero, "t = TRI(a, b)", "t = TRI(fault0, b)"},
		"stuck 5.1 1":  {"k = BUF(t)", one, "t = TRI(a, b)", "t = TRI(a, fault0)"},
		"stuck 7.0 1":  {"k = BUF(t)", one + "; fault1 = ONE(); fault2 = TRI(fault1, fault0)", "s = BUS(t, u, t)", "s = BUS(fault2, u, t)"},
		"stuck 7.1 0":  {"k = BUF(t)", zero + "; fault1 = ONE(); fault2 = TRI(fault1, fault0)", "s = BUS(t, u, t)", "s = BUS(t, fault2, t)"},
		"stuck 7.2 0":  {"k = BUF(t)", zero + "; fault1 = ONE(); fault2 = TRI(fault1, fault0)", "s = BUS(t, u, t)", "s = BUS(t, u, fault2)"},
		"stuck 8.2 0":  {"k = BUF(t)", zero, "m = MUX(a, g, s)", "m = MUX(a, g, fault0)"},
		"stuck 11.2 0": {"k = BUF(t)", zero, "x = XOR(q, z, o)", "x = XOR(q, z, fault0)"},
		"stuck 12.0 1": {"k = BUF(t)", one, "r = DFF(t)", "r = DFF(fault0)"},
		"stuck 14.0 0": {"k = BUF(t)", "k = BUF(fault0); fault0 = ZERO()"},
	} {
		expectEdits(t, sheet, fault, edits...)
	}
}

// TestCutStuckBuses has Tri nodes that are read by Bus nodes only, by several of them, by all sorts of readers, and by none.
func TestCutStuckBuses(t *testing.T) {
	const buses = "INPUT(e); t = TRI(e, e); u = TRI(e, t); s = BUS(t); v = BUS(u, t, u, t); w = BUS(u); x = TRI(t, t); OUTPUT(t); OUTPUT(w)"
	expectEdits(t, buses, "stuck 1 0", "u = TRI(e, t)", "u = TRI(e, fault0)", "s = BUS(t)", "s = BUS(fault2)", "v = BUS(u, t, u, t)", "v = BUS(u, fault2, u, fault2)", "x = TRI(t, t)", "x = TRI(fault0, fault0); fault0 = ZERO(); fault1 = ONE(); fault2 = TRI(fault1, fault0)", "OUTPUT(t)", "OUTPUT(fault0)")
	expectEdits(t, buses, "stuck 2 1", "v = BUS(u, t, u, t)", "v = BUS(fault2, t, fault2, t)", "w = BUS(u)", "w = BUS(fault2)", "x = TRI(t, t)", "x = TRI(t, t); fault0 = ONE(); fault1 = ONE(); fault2 = TRI(fault1, fault0)")
	expectEdits(t, buses, "stuck 6 1", "x = TRI(t, t)", "x = TRI(t, t); fault0 = ONE()")
	expectEdits(t, buses, "stuck 4.2 1", "v = BUS(u, t, u, t)", "v = BUS(u, t, fault2, t)", "x = TRI(t, t)", "x = TRI(t, t); fault0 = ONE(); fault1 = ONE(); fault2 = TRI(fault1, fault0)")
	expectEdits(t, buses, "stuck 3 1", "x = TRI(t, t)", "x = TRI(t, t); fault0 = ONE()")
	expectEdits(t, buses, "stuck 5 0", "x = TRI(t, t)", "x = TRI(t, t); fault0 = ZERO()", "OUTPUT(w)", "OUTPUT(fault0)")
}

// TestCutBridges has nets that are read by the same and by different nodes, by outputs and by nothing, and nodes that read themselves.
func TestCutBridges(t *testing.T) {
	const last = "k = BUF(t)"
	for fault, edits := range map[string][]string{
		"wired 0 1 0":  {last, last + "; fault0 = AND(a, b)", "n = NOT(a)", "n = NOT(fault0)", "g = AND(a, b, a)", "g = AND(fault0, fault0, fault0)", "t = TRI(a, b)", "t = TRI(fault0, fault0)", "m = MUX(a", "m = MUX(fault0", "OUTPUT(a)", "OUTPUT(fault0)"},
		"wired 0 1 1":  {last, last + "; fault0 = OR(a, b)", "n = NOT(a)", "n = NOT(fault0)", "g = AND(a, b, a)", "g = AND(fault0, fault0, fault0)", "t = TRI(a, b)", "t = TRI(fault0, fault0)", "m = MUX(a", "m = MUX(fault0", "OUTPUT(a)", "OUTPUT(fault0)"},
		"wired 2 3 0":  {last, last + "; fault0 = AND(q, n)", "u = TRI(n, q)", "u = TRI(fault0, fault0)", "x = XOR(q", "x = XOR(fault0"},
		"wired 7 13 1": {last, last + "; fault0 = OR(s, h)", "q = DFF(s)", "q = DFF(fault0)", "m = MUX(a, g, s)", "m = MUX(a, g, fault0)", "OUTPUT(s)", "OUTPUT(fault0)", "OUTPUT(h)", "OUTPUT(fault0)"},
		"wired 9 10 1": {last, last + "; fault0 = OR(z, o)", "x = XOR(q, z, o)", "x = XOR(q, fault0, fault0)"},
		"wired 9 14 0": {last, last + "; fault0 = AND(z, k)", "x = XOR(q, z, o)", "x = XOR(q, fault0, o)"},
		"strong 0 1":   {"n = NOT(a)", "n = NOT(b)", "g = AND(a, b, a)", "g = AND(b, b, b)", "t = TRI(a, b)", "t = TRI(b, b)", "m = MUX(a", "m = MUX(b", "OUTPUT(a)", "OUTPUT(b)"},
		"strong 1 0":   {"g = AND(a, b, a)", "g = AND(a, a, a)", "t = TRI(a, b)", "t = TRI(a, a)"},
		"strong 2 0":   {"u = TRI(n, q)", "u = TRI(n, a)", "x = XOR(q", "x = XOR(a"},
		"strong 7 13":  {"q = DFF(s)", "q = DFF(h)", "m = MUX(a, g, s)", "m = MUX(a, g, h)", "OUTPUT(s)", "OUTPUT(h)"},
		"strong 13 7":  {"OUTPUT(h)", "OUTPUT(s)"},
		"strong 14 13": {},
		"strong 13 14": {"OUTPUT(h)", "OUTPUT(k)"},
	} {
		expectEdits(t, sheet, fault, edits...)
	}
	const states = "q = DFF(q); r = DFF(q); p = DFF(r); OUTPUT(q); OUTPUT(r); OUTPUT(q)"
	expectEdits(t, states, "stuck 0 1", "q = DFF(q)", "q = DFF(fault0)", "r = DFF(q)", "r = DFF(fault0)", "p = DFF(r)", "p = DFF(r); fault0 = ONE()", "OUTPUT(q)", "OUTPUT(fault0)")
	expectEdits(t, states, "stuck 0.0 1", "q = DFF(q)", "q = DFF(fault0)", "p = DFF(r)", "p = DFF(r); fault0 = ONE()")
	expectEdits(t, states, "wired 0 1 0", "q = DFF(q)", "q = DFF(fault0)", "r = DFF(q)", "r = DFF(fault0)", "p = DFF(r)", "p = DFF(fault0); fault0 = AND(q, r)", "OUTPUT(q)", "OUTPUT(fault0)", "OUTPUT(r)", "OUTPUT(fault0)")
	expectEdits(t, states, "strong 0 2", "q = DFF(q)", "q = DFF(p)", "r = DFF(q)", "r = DFF(p)", "OUTPUT(q)", "OUTPUT(p)")
	expectEdits(t, states, "strong 2 0")
	expectEdits(t, states, "strong 1 0", "p = DFF(r)", "p = DFF(q)", "OUTPUT(r)", "OUTPUT(q)")
}

// TestCutNames has circuits with all subsets of the first names of the sequence, and with names that are almost such.
func TestCutNames(t *testing.T) {
	almost := []string{"fault", "fault00", "fault01", "Fault0", "fault-0", "fault+1", "fault0.", "faults1", "afault0", "1", "fault6"}
	for set := range 64 {
		for _, names := range [][]string{{"e", "t", "s"}, append([]string{"e", "t", "s"}, almost...)} {
			for i := range 6 {
				if set>>i&1 == 1 {
					names = append(names, "fault"+strconv.Itoa(i))
				}
			}
			c := api.Circuit{Nodes: []api.Node{in(api.Input), in(api.Tri, 0, 0), in(api.Bus, 1)}, Names: names, Outs: []int{2}}
			for len(c.Nodes) < len(names) {
				c.Nodes = append(c.Nodes, in(api.Input))
			}
			for _, f := range all(c, api.Stuck, api.Wired, api.Strong) {
				expectCut(t, "names", c, f)
			}
		}
	}
	d, e := Cut(read("INPUT(fault1); t = TRI(fault1, fault1); fault0 = BUS(t); fault3 = BUS(t); OUTPUT(fault0)"), parsed("stuck 1 0"))
	if want := "INPUT(fault1); t = TRI(fault1, fault1); fault0 = BUS(fault5); fault3 = BUS(fault5); fault2 = ZERO(); fault4 = ONE(); fault5 = TRI(fault4, fault2); OUTPUT(fault0)"; text(d) != want || e != api.OK {
		t.Errorf("%s with error %d", text(d), e)
	}
}

// TestCutManyNames has circuits with the first names of the sequence, in both orders, but for one of them or none.
func TestCutManyNames(t *testing.T) {
	for _, n := range []int{9, 10, 11, 99, 100, 101, 1000, 9999, api.MaxNodes - 1} {
		for _, missing := range []int{0, 7, n / 2, n - 1, n} {
			var c api.Circuit
			for i := range n + 1 {
				if i != missing {
					c.Nodes, c.Names = append(c.Nodes, in(api.Input)), append(c.Names, "fault"+strconv.Itoa(i))
				}
			}
			for range 2 {
				d, e := Cut(c, parsed("stuck 1 1"))
				if len(d.Names) != n+1 || d.Names[n] != "fault"+strconv.Itoa(missing) || !slices.Equal(d.Names[:n], c.Names) || e != api.OK {
					t.Errorf("%d names without %d: the names %v, error %d", n, missing, d.Names[len(d.Names)-1:], e)
				}
				slices.Reverse(c.Names)
			}
		}
	}
}

// TestCutRandom compares Cut with the chapter's words for all faults of random circuits.
func TestCutRandom(t *testing.T) {
	r := random(137)
	counts := map[int]int{}
	for i, c := range circuits(400, 20) {
		for k := range c.Names {
			if r.below(4) == 0 {
				if name := "fault" + strconv.Itoa(r.below(8)); !slices.Contains(c.Names, name) {
					c.Names[k] = name
				}
			}
		}
		l := all(c, api.Stuck, api.Wired, api.Strong)
		for k, f := range l {
			if len(l) < 60 || k%5 == i%5 {
				expectCut(t, "circuit "+strconv.Itoa(i), c, f)
				counts[len(cutOf(c, f).Nodes)-len(c.Nodes)]++
			}
		}
	}
	if counts[0] < 1000 || counts[1] < 1000 || counts[3] < 200 {
		t.Errorf("numbers of appended nodes: %v", counts)
	}
}
