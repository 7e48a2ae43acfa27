package collapses_test

import (
	"slices"
	"strconv"
	"testing"

	"probecard/api"
	. "probecard/collapses"
)

// P14.2 and P14.3

// expectPairs expects pairs of classes and a core.
func expectPairs(t *testing.T, name string, c api.Circuit, l []api.Fault, want [][2]int, core []int) {
	t.Helper()
	if got, e := Dominances(c, l); e != api.OK || !slices.Equal(got, want) {
		t.Errorf("%s: Dominances returns %v with error %d, not %v", name, got, e, want)
	}
	if got, e := Core(c, l); e != api.OK || !slices.Equal(got, core) {
		t.Errorf("%s: Core returns %v with error %d, not %v", name, got, e, core)
	}
}

func TestDominancesExample(t *testing.T) {
	l := list("0 0, 0 1, 1 0, 1 1, 2 0, 2 1, 2.0 0, 2.0 1, 2.1 0, 2.1 1")
	expectPairs(t, "example", example(), l, [][2]int{{1, 3}, {2, 3}}, []int{0, 1, 3})
}

// TestDominancesRows has all kinds of nodes, whose nets are all outputs. The classes are those of gateRows.
func TestDominancesRows(t *testing.T) {
	for _, x := range []struct {
		kind        api.Kind
		pins        int
		pairs, core string
	}{
		{api.And, 2, "2 1; 3 1", "0 3 5"},
		{api.And, 3, "2 1; 3 1; 4 1", "0 3 5 7"},
		{api.And, 5, "2 1; 3 1; 4 1; 5 1; 6 1", "0 3 5 7 9 11"},
		{api.Nand, 2, "2 0; 3 0", "1 3 5"},
		{api.Nand, 3, "2 0; 3 0; 4 0", "1 3 5 7"},
		{api.Nand, 4, "2 0; 3 0; 4 0; 5 0", "1 3 5 7 9"},
		{api.Or, 2, "2 0; 3 0", "1 2 4"},
		{api.Or, 3, "2 0; 3 0; 4 0", "1 2 4 6"},
		{api.Or, 16, "2 0; 3 0; 4 0; 5 0; 6 0; 7 0; 8 0; 9 0; 10 0; 11 0; 12 0; 13 0; 14 0; 15 0; 16 0; 17 0", "1 2 4 6 8 10 12 14 16 18 20 22 24 26 28 30 32"},
		{api.Nor, 2, "2 1; 3 1", "0 2 4"},
		{api.Nor, 3, "2 1; 3 1; 4 1", "0 2 4 6"},
		{api.Nor, 6, "2 1; 3 1; 4 1; 5 1; 6 1; 7 1", "0 2 4 6 8 10 12"},
		{api.Xor, 2, "", "0 1 2 3 4 5"},
		{api.Xnor, 3, "", "0 1 2 3 4 5 6 7"},
		{api.Mux, 3, "", "0 1 2 3 4 5 6 7"},
		{api.Tri, 2, "", "0 1 2 3 4 5"},
		{api.Bus, 1, "", "0 1"},
		{api.Bus, 2, "", "0 1 2 3 4 5"},
		{api.Buf, 1, "", "0 1"},
		{api.Not, 1, "", "0 1"},
		{api.Dff, 1, "", "0 1 2 3"},
		{api.Input, 0, "", "0 1"},
		{api.Zero, 0, "", "0 1"},
		{api.One, 0, "", "0 1"},
	} {
		name := "kind " + strconv.Itoa(int(x.kind)) + " of " + strconv.Itoa(x.pins) + " pins"
		expectPairs(t, name, gate(x.kind, x.pins), gateFaults(x.pins), pairs(x.pairs), ints(x.core))
	}
}

// TestDominancesAlone has a fault at a pin and one at the output of each gate, in both orders and with all values.
func TestDominancesAlone(t *testing.T) {
	preceding := map[api.Kind][2]api.Value{api.And: {1, 1}, api.Nand: {1, 0}, api.Or: {0, 0}, api.Nor: {0, 1}}
	for kind := api.And; kind <= api.Xnor; kind++ {
		for pin := range 3 {
			for v := range api.V1 + 1 {
				for w := range api.V1 + 1 {
					l := []api.Fault{stuck(0, pin, v), stuck(0, -1, w)}
					row, ok := preceding[kind]
					classes, _ := Classes(gate(kind, 3), l)
					name := "kind " + strconv.Itoa(int(kind)) + ", pin " + strconv.Itoa(pin) + " at " + strconv.Itoa(int(v)) + ", output at " + strconv.Itoa(int(w))
					switch {
					case ok && row == [2]api.Value{v, w}:
						expectPairs(t, name, gate(kind, 3), l, [][2]int{{0, 1}}, []int{0})
						slices.Reverse(l)
						expectPairs(t, name+", reversed", gate(kind, 3), l, [][2]int{{1, 0}}, []int{1})
					case len(classes) == 1:
						expectPairs(t, name, gate(kind, 3), l, nil, []int{0})
					default:
						expectPairs(t, name, gate(kind, 3), l, nil, []int{0, 1})
					}
				}
			}
		}
	}
}

// stairs is a circuit in which each And gate but the first reads the one before it: g (2), h (4), k (6).
const stairs = "INPUT(a); INPUT(b); g = AND(a, b); INPUT(c); h = AND(g, c); INPUT(d); k = AND(h, d); OUTPUT(k)"

// TestDominancesLists has classes before several nodes, classes over several nodes, and lists that lack some of the faults.
func TestDominancesLists(t *testing.T) {
	for _, x := range []struct{ circuit, faults, pairs, core string }{
		{stairs, "0 1, 1 1, 2 1, 3 1, 4 1, 5 1, 6 1", "0 2; 1 2; 2 4; 3 4; 4 6; 5 6", "0 1 3 5"},
		{stairs, "6 1, 5 1, 4 1, 3 1, 2 1, 1 1, 0 1", "1 0; 2 0; 3 2; 4 2; 5 4; 6 4", "1 3 5 6"},
		{stairs, "0 1, 1 1, 3 1, 4 1, 5 1, 6 1", "2 3; 3 5; 4 5", "0 1 2 4"}, // not over g, which is not in the list
		{stairs, "0 1, 4 1", "", "0 1"},
		{stairs, "0 1, 6 1", "", "0 1"},
		{stairs, "2 1, 6 1", "", "0 1"},
		{stairs, "2 1, 4 1", "0 1", "0"},
		{stairs, "4.0 1, 4 1", "0 1", "0"},  // the pin is in the list
		{stairs, "2 1, 6.0 1", "0 1", "0"},  // neither the pin nor the output
		{stairs, "6.0 1, 2.0 1", "", "0 1"}, // the class between them lacks
		{stairs, "4 1, 2 1, 4.0 1", "1 0", "1"},
		{stairs, "4 1, 6.0 1, 2 1, 4.0 1, 3 1", "1 0; 2 0", "2 4"},
		{stairs, "4 0, 2 0, 2 1, 3 1", "", "0 2 3"}, // nothing above the pins
		{stairs, "slow 0 1, slow 2 1, slow 4 1, wired 0 1 1, strong 0 3", "", "0 1 2 3 4"},
		{stairs, "slow 2 1, 2 1, wired 0 1 1, 4 1, slow 4 1, 2 1", "1 3", "0 1 2 4"},
		{stairs, "slow 4 1, wired 0 1 1, wired 0 1 1, slow 4 1", "", "0 1"},
		{stairs, "slow 2.0 1, 2 1, slow 4.1 1, 4 1, slow 6.0 1, slow 6 1", "1 3", "0 1 2 4 5"},
		{stairs, "2.0 1, slow 2 1", "", "0 1"},
		{stairs, "", "", ""},
		{stairs, "2 1, 2 1", "", "0"},
		{stairs, "4 1, 2 1, 2 1, 4 1", "1 0", "1"},
		{chained, "0 0, 0 1, 1 0, 1 1, 2 0, 2 1, 2.0 0, 2.0 1, 3 0, 3 1, 3.0 0, 3.0 1, 3.1 0, 3.1 1, 4 0, 4 1, 5 0, 5 1, 5.0 0, 5.0 1, 5.1 0, 5.1 1, 6 0, 6 1, 6.0 0, 6.0 1", "0 3; 2 3; 3 5; 4 5", "0 1 3 14"},
		{chained, "3 0, 0 0, 1 1, 6 1, 4 0", "0 3; 1 0; 2 0; 4 3", "1 2 4"},
		{"INPUT(a); g = AND(a, a); OUTPUT(g)", "0 1, 1 1, 1.0 1, 1.1 1", "2 1; 3 1", "0 2 3"}, // net 0 has two pins
		{"INPUT(a); g = AND(a, a); OUTPUT(g)", "0 1, 1 1", "", "0 1"},
		{"INPUT(a); INPUT(b); g = AND(a, b); OUTPUT(g); OUTPUT(a)", "0 1, 1 1, 2 1", "1 2", "0 1"},
		{"INPUT(a); INPUT(b); g = AND(a, b); h = OR(a, b)", "0 1, 2.0 1, 2 1, 0 0, 3.0 0, 3 0", "1 2; 4 5", "0 1 3 4"},
		{"INPUT(a); INPUT(b); g = OR(a, b); n = NOT(g); h = NOR(n, a); OUTPUT(h)", "1 0, 2.0 0, 2 0, 3 1, 4 0, 4 1, 4.1 0, 4.0 0, 3 0, 4.0 1", "0 2; 1 2; 4 3; 5 3", "0 1 6 7"},
		{"INPUT(a); INPUT(b); g = NAND(a, b); q = DFF(g); h = NAND(q, a); OUTPUT(h)", "2.0 1, 1 1, 2 0, 3.0 0, 3 1, 4.0 1, 4 0, 3 0, 4.1 1", "0 2; 1 2; 3 4; 6 4", "0 1 4 7 8"},
	} {
		expectPairs(t, x.circuit+": "+x.faults, read(x.circuit), list(x.faults), pairs(x.pairs), ints(x.core))
	}
	expectPairs(t, "without nodes", api.Circuit{}, nil, nil, nil)
}

// TestDominancesRandom compares the pairs and the cores of random circuits with the chapter's words.
func TestDominancesRandom(t *testing.T) {
	r := random(144)
	most := 0
	for i, c := range circuits(500, 25) {
		for k, l := range r.faultLists(c) {
			want := dominancesOf(c, l)
			expectPairs(t, "circuit "+strconv.Itoa(i)+", list "+strconv.Itoa(k), c, l, want, coreOf(c, l))
			most = max(most, len(want))
		}
	}
	if most < 15 {
		t.Errorf("no list has more than %d pairs", most)
	}
}

// eachSmall calls f for circuits of two inputs, the nodes 0 and 1, and two or three gates, each of which reads nets before it.
func eachSmall(f func(c api.Circuit)) {
	kinds := []api.Kind{api.And, api.Nand, api.Or, api.Nor, api.Not, api.Buf}
	gates := func(n int) []api.Node { // all gates that read nets below n
		var l []api.Node
		for _, kind := range kinds {
			for a := range n {
				if kind < api.And {
					l = append(l, in(kind, a))
					continue
				}
				for b := range n {
					l = append(l, in(kind, a, b))
				}
			}
		}
		return l
	}
	input := in(api.Input)
	for _, g := range gates(2) {
		for _, h := range gates(3) {
			f(of([]int{3}, input, input, g, h))
			f(of([]int{3, 2}, input, input, g, h))
			if g.In[0] == 0 { // a half of them is enough
				for i, k := range gates(4) {
					if i%3 == 0 {
						f(of([]int{4}, input, input, g, h, k))
					}
				}
			}
		}
	}
}

// TestDominancesSmall has many small circuits. By the chapter's words a class might precede itself or several others, or precede another one by several pins.
// The test checks that this never happens: the faults of a class lie at the pin by which it precedes another one or before it, and those of the other one behind it.
func TestDominancesSmall(t *testing.T) {
	r := random(145)
	count := 0
	eachSmall(func(c api.Circuit) {
		stuck := all(c, api.Stuck)
		for _, l := range [][]api.Fault{stuck, r.shuffled(stuck)[:len(stuck)/2]} {
			expectPairs(t, "small", c, l, dominancesOf(c, l), coreOf(c, l))
			seen := map[int]bool{}
			for _, x := range precedences(c, l) {
				if x[0] == x[1] || seen[x[0]] {
					t.Errorf("%v: %v: %v", c.Nodes, l, precedences(c, l))
				}
				seen[x[0]] = true
				count++
			}
		}
	})
	if count < 10000 {
		t.Errorf("%d pairs", count)
	}
}

// TestDominancesLarge has a long chain of And gates, each of which reads the one before it and an input.
func TestDominancesLarge(t *testing.T) {
	nodes := []api.Node{in(api.Input)}
	var l []api.Fault
	for len(nodes)+2 <= api.MaxNodes {
		n := len(nodes)
		nodes = append(nodes, in(api.Input), in(api.And, n-1, n))
	}
	c := of([]int{len(nodes) - 1}, nodes...)
	var want [][2]int
	core := []int{}
	for i := range nodes {
		l = append(l, stuck(i, -1, 1))
	}
	for i := range nodes { // the nets 0, 2, 4, .. are those of the chain
		switch {
		case i%2 == 0 && i+2 < len(nodes):
			want = append(want, [2]int{i, i + 2})
		case i%2 == 1:
			want = append(want, [2]int{i, i + 1})
		}
		if i%2 == 1 || i == 0 {
			core = append(core, i)
		}
	}
	expectPairs(t, "a long chain", c, l, want, core)
	for i := range l {
		l[i] = stuck(i, -1, 0)
	}
	expectPairs(t, "a long chain of equivalent faults", c, l, nil, []int{0})
}
