package deductives_test

import (
	"slices"
	"strconv"
	"strings"
	"testing"

	"probecard/api"
	. "probecard/deductives"
)

// P16.1

// expectLists expects the fault lists of all nets, each of them ascending.
func expectLists(t *testing.T, name string, c api.Circuit, l []api.Fault, p api.Pattern, want [][]int) {
	t.Helper()
	got, e := Lists(c, l, p)
	if e != api.OK || len(got) != len(c.Nodes) {
		t.Fatalf("%s, %v: %d lists for %d nets, error %d", name, p, len(got), len(c.Nodes), e)
	}
	for net := range got {
		if !slices.Equal(got[net], want[net]) {
			t.Errorf("%s, %v, net %d: %s, not %s", name, p, net, texts(l, got[net]), texts(l, want[net]))
		}
		if !isAscending(got[net]) {
			t.Errorf("%s, %v, net %d: %v does not ascend", name, p, net, got[net])
		}
	}
}

// isAscending reports whether each element is greater than the one before it.
func isAscending(l []int) bool {
	for i := 1; i < len(l); i++ {
		if l[i-1] >= l[i] {
			return false
		}
	}
	return true
}

// expectListsOf expects what the chapter's words say.
func expectListsOf(t *testing.T, name string, c api.Circuit, l []api.Fault, p api.Pattern) {
	t.Helper()
	want, _ := resultsOf(c, l, p)
	expectLists(t, name, c, l, p, want)
}

// expectTexts expects the fault lists of the nets, for all stuck faults of a circuit, as texts separated by semicolons.
func expectTexts(t *testing.T, name string, c api.Circuit, p, want string) {
	t.Helper()
	l := all(c, api.Stuck)
	got, e := Lists(c, l, patternOf(p))
	var out []string
	for _, indices := range got {
		out = append(out, texts(l, indices))
	}
	if s := strings.Join(out, "; "); s != want || e != api.OK {
		t.Errorf("%s, %s: %s with error %d, not %s", name, p, s, e, want)
	}
	expectListsOf(t, name, c, l, patternOf(p))
}

// TestListsExample has the chapter's example, and the other patterns of its circuit.
func TestListsExample(t *testing.T) {
	c := example()
	expectLists(t, "example", c, all(c, api.Stuck), patternOf("01"), [][]int{{1}, {2}, {1, 5, 7}})
	expectLists(t, "example", c, all(c, api.Stuck), patternOf("10"), [][]int{{0}, {3}, {3, 5, 9}})
	expectLists(t, "example", c, all(c, api.Stuck), patternOf("00"), [][]int{{1}, {3}, {5}})
	expectLists(t, "example", c, all(c, api.Stuck), patternOf("11"), [][]int{{0}, {2}, {0, 2, 4, 6, 8}})
}

// TestListsKinds has the fault list of a node of each kind, for faults of its inputs, its output and its pins.
func TestListsKinds(t *testing.T) {
	for _, x := range []struct{ gate, pattern, want string }{
		{"AND(a, b, c)", "111", "0 0, 1 0, 2 0, 3 0, 3.0 0, 3.1 0, 3.2 0"},
		{"AND(a, b, c)", "101", "1 1, 3 1, 3.1 1"},
		{"AND(a, b, c)", "001", "3 1"},
		{"AND(a, b, c)", "000", "3 1"},
		{"NAND(a, b, c)", "111", "0 0, 1 0, 2 0, 3 1, 3.0 0, 3.1 0, 3.2 0"},
		{"NAND(a, b, c)", "110", "2 1, 3 0, 3.2 1"},
		{"NAND(a, b, c)", "100", "3 0"},
		{"OR(a, b, c)", "000", "0 1, 1 1, 2 1, 3 1, 3.0 1, 3.1 1, 3.2 1"},
		{"OR(a, b, c)", "010", "1 0, 3 0, 3.1 0"},
		{"OR(a, b, c)", "011", "3 0"},
		{"NOR(a, b, c)", "000", "0 1, 1 1, 2 1, 3 0, 3.0 1, 3.1 1, 3.2 1"},
		{"NOR(a, b, c)", "100", "0 0, 3 1, 3.0 0"},
		{"NOR(a, b, c)", "111", "3 1"},
		{"XOR(a, b, c)", "101", "0 0, 1 1, 2 0, 3 1, 3.0 0, 3.1 1, 3.2 0"},
		{"XOR(a, b, c)", "001", "0 1, 1 1, 2 0, 3 0, 3.0 1, 3.1 1, 3.2 0"},
		{"XNOR(a, b, c)", "101", "0 0, 1 1, 2 0, 3 0, 3.0 0, 3.1 1, 3.2 0"},
		{"XNOR(a, b, c)", "111", "0 0, 1 0, 2 0, 3 1, 3.0 0, 3.1 0, 3.2 0"},
		{"MUX(a, b, c)", "010", "0 1, 1 0, 3 0, 3.0 1, 3.1 0"},
		{"MUX(a, b, c)", "011", "1 0, 3 0, 3.1 0"},
		{"MUX(a, b, c)", "000", "1 1, 3 1, 3.1 1"},
		{"MUX(a, b, c)", "101", "0 0, 2 0, 3 0, 3.0 0, 3.2 0"},
		{"MUX(a, b, c)", "100", "2 1, 3 1, 3.2 1"},
		{"BUF(b)", "000", "1 1, 3 1, 3.0 1"},
		{"BUF(b)", "010", "1 0, 3 0, 3.0 0"},
		{"NOT(b)", "000", "1 1, 3 0, 3.0 1"},
		{"NOT(b)", "111", "1 0, 3 1, 3.0 0"},
		{"ZERO()", "111", "3 1"},
		{"ONE()", "000", "3 0"},
		{"DFF(b)", "010 0", "3 1"},
		{"DFF(b)", "010 1", "3 0"},
		{"DFF(d)", "000 1", "3 0"},
		{"NAND(a, a, b, a)", "100", "1 1, 3 0, 3.2 1"},
		{"NAND(a, a, b, a)", "010", "0 1, 3 0"},
		{"XOR(c, b, c)", "001", "1 1, 3 1, 3.0 0, 3.1 1, 3.2 0"},
		{"MUX(a, a, a)", "100", "0 0, 3 0, 3.2 0"},
		{"MUX(a, b, a)", "010", "1 0, 3 0, 3.0 1, 3.1 0"},
	} {
		c := read("INPUT(a); INPUT(b); INPUT(c); d = " + x.gate)
		var inputs []string
		for i, v := range patternOf(x.pattern).In {
			inputs = append(inputs, strconv.Itoa(i)+" "+strconv.Itoa(1-int(v)))
		}
		expectTexts(t, x.gate, c, x.pattern, strings.Join(inputs, "; ")+"; "+x.want)
	}
}

// TestListsPins has gates of all kinds and numbers of pins with all faults, and all values at the pins, or if there are many those that are equal but for one.
func TestListsPins(t *testing.T) {
	r := random(167)
	for kind := api.Buf; kind <= api.Mux; kind++ {
		for n := 1; n <= api.MaxFanin; n++ {
			isOne := kind == api.Buf || kind == api.Not
			if isOne && n != 1 || !isOne && n == 1 || kind == api.Mux && n != 3 {
				continue
			}
			c := of([]int{n}, append(make([]api.Node, n), in(kind, r.permutation(n)...))...)
			for _, p := range patternsOf(c, n) {
				expectListsOf(t, "kind "+strconv.Itoa(int(kind)), c, all(c, api.Stuck), p)
			}
		}
	}
}

// patternsOf returns all full patterns of a circuit of n inputs, or if there are more than 5 those whose values are equal but for at most one.
func patternsOf(c api.Circuit, n int) []api.Pattern {
	if n <= 5 {
		return allPatterns(c)
	}
	var l []api.Pattern
	for v := range api.V1 + 1 {
		same := slices.Repeat([]api.Value{v}, n)
		l = append(l, api.Pattern{In: same})
		for i := range n {
			other := slices.Clone(same)
			other[i] = 1 - v
			l = append(l, api.Pattern{In: other})
		}
	}
	return l
}

// TestListsReconvergent has faults that reach a net on several ways: they cancel themselves there, or change it only together.
func TestListsReconvergent(t *testing.T) {
	// the nodes are 0 a, 1 n, 2 b, 3 x, 4 y, 5 z, 6 o, 7 e and 8 w
	c := read("INPUT(a); n = NOT(a); b = BUF(a); x = XOR(n, b); y = AND(n, b); z = XOR(a, a); o = OR(a, n); e = BUF(a); w = AND(b, e)")
	expectTexts(t, "reconvergent", c, "0", strings.Join([]string{
		"0 1",
		"0 1, 1 0, 1.0 1",
		"0 1, 2 1, 2.0 1",
		"1 0, 1.0 1, 2 1, 2.0 1, 3 0, 3.0 0, 3.1 1",
		"2 1, 2.0 1, 4 1, 4.1 1",
		"5 1, 5.0 1, 5.1 1",
		"1 0, 1.0 1, 6 0, 6.1 0",
		"0 1, 7 1, 7.0 1",
		"0 1, 8 1",
	}, "; "))
	expectTexts(t, "reconvergent", c, "1", strings.Join([]string{
		"0 0",
		"0 0, 1 1, 1.0 0",
		"0 0, 2 0, 2.0 0",
		"1 1, 1.0 0, 2 0, 2.0 0, 3 0, 3.0 1, 3.1 0",
		"1 1, 1.0 0, 4 1, 4.0 1",
		"5 1, 5.0 0, 5.1 0",
		"6 0, 6.0 0",
		"0 0, 7 0, 7.0 0",
		"0 0, 2 0, 2.0 0, 7 0, 7.0 0, 8 0, 8.0 0, 8.1 0",
	}, "; "))
}

// stateful has Dff nodes that read a gate, themselves and an input; its nodes are 0 q, 1 a, 2 x, 3 r, 4 s, 5 h and 6 k.
const stateful = "q = DFF(x); INPUT(a); x = XOR(q, a); r = DFF(r); s = DFF(a); h = AND(r, s); k = NOT(q)"

// TestListsState has Dff nodes: what they read changes no net in this cycle, and neither do their pins.
func TestListsState(t *testing.T) {
	c := read(stateful)
	expectTexts(t, "stateful", c, "0 110", "0 0; 1 1; 0 0, 1 1, 2 0, 2.0 0, 2.1 1; 3 0; 4 1; 4 1, 5 1, 5.1 1; 0 0, 6 1, 6.0 0")
	expectTexts(t, "stateful", c, "1 011", "0 1; 1 0; 0 1, 1 0, 2 0, 2.0 1, 2.1 0; 3 0; 4 0; 3 0, 4 0, 5 0, 5.0 0, 5.1 0; 0 1, 6 0, 6.0 1")
	expectTexts(t, "a state", of(nil, in(api.Dff, 0)), " 0", "0 1")
	expectTexts(t, "a state", of(nil, in(api.Dff, 0)), " 1", "0 0")
}

// TestListsConstants has constants, and gates that read only constants.
func TestListsConstants(t *testing.T) {
	// the nodes are 0 z, 1 o, 2 g and 3 n
	c := read("z = ZERO(); o = ONE(); g = OR(z, o); n = NOR(g, z)")
	expectTexts(t, "constants", c, "", "0 1; 1 0; 1 0, 2 0, 2.1 0; 1 0, 2 0, 2.1 0, 3 1, 3.0 0")
}

// TestListsFew has no faults, and each fault alone.
func TestListsFew(t *testing.T) {
	r := random(168)
	for i, c := range circuits(60, 20) {
		name := "circuit " + strconv.Itoa(i)
		p := r.full(c)
		expectLists(t, name, c, nil, p, make([][]int, len(c.Nodes)))
		expectLists(t, name, c, []api.Fault{}, p, make([][]int, len(c.Nodes)))
		for _, f := range all(c, api.Stuck) {
			expectListsOf(t, name, c, []api.Fault{f}, p)
		}
	}
	expectLists(t, "example", example(), list("2.0 1"), patternOf("01"), [][]int{nil, nil, {0}})
	expectLists(t, "example", example(), list("2.0 0"), patternOf("01"), [][]int{nil, nil, nil})
	expectLists(t, "without nodes", api.Circuit{}, nil, api.Pattern{}, nil)
}

// TestListsRepeated has faults that stand in the list several times, in any order.
func TestListsRepeated(t *testing.T) {
	expectLists(t, "example", example(), list("2 1, 0 1, 0 1, 2 0, 1 0, 2.0 1, 0 1"), patternOf("01"), [][]int{{1, 2, 6}, {4}, {0, 1, 2, 5, 6}})
	expectLists(t, "example", example(), slices.Repeat(list("1 0, 1 1"), 50), patternOf("11"), [][]int{nil, evens(100), evens(100)})
	r := random(169)
	for i, c := range circuits(100, 30) {
		l := all(c, api.Stuck)
		expectListsOf(t, "circuit "+strconv.Itoa(i), c, r.faults(100, l), r.full(c))
		expectListsOf(t, "circuit "+strconv.Itoa(i), c, r.faults(100, l[:min(3, len(l))]), r.full(c))
		slices.Reverse(l)
		expectListsOf(t, "circuit "+strconv.Itoa(i), c, slices.Concat(l, l), r.full(c))
	}
}

// evens returns the even numbers below n.
func evens(n int) []int {
	var l []int
	for i := 0; i < n; i += 2 {
		l = append(l, i)
	}
	return l
}

// TestListsSmall has all stuck faults of small circuits, together and alone, with all full patterns.
func TestListsSmall(t *testing.T) {
	entries := 0
	for i, c := range small(250, 14, 4) {
		l := all(c, api.Stuck)
		for _, p := range allPatterns(c) {
			name := "circuit " + strconv.Itoa(i)
			want, _ := resultsOf(c, l, p)
			expectLists(t, name, c, l, p, want)
			for k, f := range l {
				expectLists(t, name+" alone", c, []api.Fault{f}, p, only(want, k))
			}
			for _, indices := range want {
				entries += len(indices)
			}
		}
	}
	if entries < 25000 {
		t.Errorf("%d entries", entries)
	}
}

// only returns the lists of the fault k alone, which has the index 0 then.
func only(lists [][]int, k int) [][]int {
	out := make([][]int, len(lists))
	for net, indices := range lists {
		if slices.Contains(indices, k) {
			out[net] = []int{0}
		}
	}
	return out
}

// TestListsRandom has larger circuits with all their faults.
func TestListsRandom(t *testing.T) {
	r := random(170)
	for i, c := range circuits(150, 60) {
		for range 3 {
			expectListsOf(t, "circuit "+strconv.Itoa(i), c, all(c, api.Stuck), r.full(c))
		}
	}
}

// chain returns a circuit of an input and n-1 Not nodes, each of which reads the node before it, or the one behind it. The last one is the output.
func chain(n int, descends bool) api.Circuit {
	nodes := make([]api.Node, n)
	for i := 1; i < n; i++ {
		nodes[i] = in(api.Not, i-1)
	}
	if !descends {
		return of([]int{n - 1}, nodes...)
	}
	for i := range n - 1 {
		nodes[i] = in(api.Not, i+1)
	}
	nodes[n-1] = in(api.Input)
	return of([]int{0}, nodes...)
}

// TestListsChain has chains of nodes in both orders: a fault changes all nets behind it.
func TestListsChain(t *testing.T) {
	for _, descends := range []bool{false, true} {
		const nodes, count = api.MaxNodes, MaxEntries / api.MaxNodes
		c := chain(nodes, descends)
		place := func(i int) int { // of the node after i inversions
			if descends {
				return nodes - 1 - i
			}
			return i
		}
		var l []api.Fault
		want := make([][]int, nodes)
		for k := range count {
			i := k * (nodes - 1) / (count - 1)
			l = append(l, api.Fault{Line: at(place(i), -1), Value: api.Value(1 - i%2)})
			for ; i < nodes; i++ {
				want[place(i)] = append(want[place(i)], k)
			}
		}
		expectLists(t, "a chain", c, l, patternOf("0"), want)
		expectLists(t, "a chain", c, l, patternOf("1"), make([][]int, nodes))
	}
}

// TestListsLimits has as many faults, or nets times faults, as there may be.
func TestListsLimits(t *testing.T) {
	c := example()
	every := func(part int) []int {
		var l []int
		for i := part; i < api.MaxFaults; i += 4 {
			l = append(l, i)
		}
		return l
	}
	expectLists(t, "many faults", c, slices.Repeat(list("0 1, 1 1, 2.1 0, 1 0"), api.MaxFaults/4), patternOf("01"), [][]int{every(0), every(3), every(0)})
	for _, nodes := range []int{16, 17, 1024, 1000, 5000, api.MaxNodes} {
		c := chain(nodes, false)
		l := slices.Repeat(list("0 0, 0 1"), MaxEntries/nodes/2)
		odds := evens(len(l))
		for i := range odds {
			odds[i]++
		}
		expectLists(t, strconv.Itoa(nodes)+" nodes", c, l, patternOf("0"), slices.Repeat([][]int{odds}, nodes))
	}
}
