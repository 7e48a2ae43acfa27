package rewrites_test

import (
	"testing"

	"probecard/api"
	"probecard/netlists"
	. "probecard/rewrites"
)

// P11.1, Merge

// TestMergeKinds has two nodes of each kind with the same pins, in the same order and in another one.
func TestMergeKinds(t *testing.T) {
	head := "INPUT(a); INPUT(b); s = TRI(a, b); t = TRI(b, a); INPUT(d); "
	for _, x := range []struct {
		first, second string
		alike         bool
	}{
		{"ZERO()", "ZERO()", true}, {"ONE()", "ONE()", true}, {"ZERO()", "ONE()", false},
		{"BUF(a)", "BUF(a)", true}, {"BUF(a)", "BUF(b)", false}, {"NOT(a)", "NOT(a)", true}, {"NOT(a)", "BUF(a)", false},
		{"AND(a, b)", "AND(a, b)", true}, {"AND(a, b)", "AND(b, a)", true}, {"NAND(a, b)", "NAND(b, a)", true}, {"OR(a, b)", "OR(b, a)", true},
		{"NOR(a, b)", "NOR(b, a)", true}, {"XOR(a, b)", "XOR(b, a)", true}, {"XNOR(a, b)", "XNOR(b, a)", true}, {"BUS(s, t)", "BUS(t, s)", true},
		{"AND(a, b)", "NAND(a, b)", false}, {"OR(a, b)", "XOR(a, b)", false}, {"XOR(a, b)", "XNOR(a, b)", false},
		{"AND(a, b, d)", "AND(d, a, b)", true}, {"AND(a, b, d)", "AND(d, a, a)", false}, {"XOR(a, a, b)", "XOR(a, b, a)", true}, {"XOR(a, a, b)", "XOR(b, a, b)", false},
		{"AND(a, b)", "AND(a, b, b)", false}, {"OR(a, a)", "OR(a, a, a)", false}, {"OR(a, a)", "OR(a, a)", true}, {"BUS(s)", "BUS(s, s)", false}, {"BUS(s)", "BUS(s)", true}, {"BUS(s)", "BUS(t)", false},
		{"MUX(a, b, d)", "MUX(a, b, d)", true}, {"MUX(a, b, d)", "MUX(a, d, b)", false}, {"MUX(a, b, d)", "MUX(b, a, d)", false}, {"MUX(a, b, b)", "MUX(b, a, b)", false}, {"MUX(a, a, a)", "MUX(a, a, a)", true},
		{"TRI(a, d)", "TRI(a, d)", true}, {"TRI(a, d)", "TRI(d, a)", false}, {"TRI(d, d)", "TRI(d, d)", true},
		{"DFF(a)", "DFF(a)", false}, {"DFF(x)", "DFF(x)", false},
	} {
		nodes := head + "x = " + x.first + "; y = " + x.second
		given := nodes + "; g = AND(y, x, y); q = DFF(y); OUTPUT(y); OUTPUT(x)"
		if x.alike {
			expectText(t, Merge, given, nodes+"; g = AND(x, x, x); q = DFF(x); OUTPUT(x); OUTPUT(x)", []int{0, 1, 2, 3, 4, 5, 5, 7, 8})
		} else {
			expectInPlace(t, Merge, given, given)
		}
	}
}

// TestMergeDeep has nodes that are alike only after others are, in any order of the indices.
func TestMergeDeep(t *testing.T) {
	for _, x := range []struct {
		given, want string
		to          []int
	}{
		{"", "", nil},
		{"INPUT(a); INPUT(b)", "INPUT(a); INPUT(b)", []int{0, 1}},
		{
			"INPUT(a); n = NOT(a); m = NOT(a); x = AND(n, a); y = AND(a, m); p = MUX(x, n, a); q = MUX(y, m, a); OUTPUT(q); OUTPUT(p); OUTPUT(m)",
			"INPUT(a); n = NOT(a); m = NOT(a); x = AND(n, a); y = AND(a, n); p = MUX(x, n, a); q = MUX(x, n, a); OUTPUT(p); OUTPUT(p); OUTPUT(n)",
			[]int{0, 1, 1, 3, 3, 5, 5},
		},
		{
			"y = NOT(m); x = NOT(n); n = BUF(a); m = BUF(a); INPUT(a); OUTPUT(x)",
			"y = NOT(n); x = NOT(n); n = BUF(a); m = BUF(a); INPUT(a); OUTPUT(y)",
			[]int{0, 0, 2, 2, 4},
		},
		{
			"d = BUF(c); c = BUF(a); e = BUF(f); f = BUF(a); INPUT(a); OUTPUT(e); OUTPUT(f)",
			"d = BUF(c); c = BUF(a); e = BUF(c); f = BUF(a); INPUT(a); OUTPUT(d); OUTPUT(c)",
			[]int{0, 1, 0, 1, 4},
		},
		{
			"INPUT(a); o = ONE(); s = TRI(o, a); p = ONE(); t = TRI(p, a); u = BUS(s, t); v = BUS(t, s); w = BUS(t); z = BUS(s); OUTPUT(v); OUTPUT(t); OUTPUT(z)",
			"INPUT(a); o = ONE(); s = TRI(o, a); p = ONE(); t = TRI(o, a); u = BUS(s, s); v = BUS(s, s); w = BUS(s); z = BUS(s); OUTPUT(u); OUTPUT(s); OUTPUT(w)",
			[]int{0, 1, 2, 1, 2, 5, 5, 7, 7},
		},
		{
			"q = DFF(x); r = DFF(y); x = XOR(q, r); y = XOR(r, q); n = NOT(q); m = NOT(r); OUTPUT(q); OUTPUT(r)",
			"q = DFF(x); r = DFF(x); x = XOR(q, r); y = XOR(r, q); n = NOT(q); m = NOT(r); OUTPUT(q); OUTPUT(r)",
			[]int{0, 1, 2, 2, 4, 5},
		},
		{
			"INPUT(a); x = AND(a, a); y = BUF(a); z = AND(y, a); w = AND(a, y, a); v = AND(y, a, a); u = AND(y, y, a); OUTPUT(v); OUTPUT(u)",
			"INPUT(a); x = AND(a, a); y = BUF(a); z = AND(y, a); w = AND(a, y, a); v = AND(y, a, a); u = AND(y, y, a); OUTPUT(w); OUTPUT(u)",
			[]int{0, 1, 2, 3, 4, 4, 6},
		},
	} {
		expectText(t, Merge, x.given, x.want, x.to)
	}
}

// TestMergeMemories has Mem nodes, and nodes at all ports.
func TestMergeMemories(t *testing.T) {
	expectText(t, Merge,
		"n = MEM(0, 1); m = MEM(0, 0); k = MEM(1, 0); j = MEM(0, 1); i = MEM(1, 0); h = MEM(1, 1); x = NOT(j); y = NOT(n); OUTPUT(i); OUTPUT(j); MEMORY(y, 1, i, j, m); MEMORY(j, 2, y, x, x, h)",
		"n = MEM(0, 1); m = MEM(0, 0); k = MEM(1, 0); j = MEM(0, 1); i = MEM(1, 0); h = MEM(1, 1); x = NOT(n); y = NOT(n); OUTPUT(k); OUTPUT(n); MEMORY(x, 1, k, n, m); MEMORY(n, 2, x, x, x, h)",
		[]int{0, 1, 2, 0, 2, 5, 6, 6})
	// The first of several memories with equal ports is another one than the second.
	expectInPlace(t, Merge,
		"INPUT(a); n = MEM(0, 0); m = MEM(1, 0); x = AND(n, m); OUTPUT(x); MEMORY(a, 1, a, a); MEMORY(a, 1, a, a)",
		"INPUT(a); n = MEM(0, 0); m = MEM(1, 0); x = AND(n, m); OUTPUT(x); MEMORY(a, 1, a, a); MEMORY(a, 1, a, a)")
}

// TestMergeNumbers has nets whose numbers have one to three digits, in such orders that the digits of two lists are the same.
func TestMergeNumbers(t *testing.T) {
	inputs := make([]api.Node, 130)
	nodes := append(inputs,
		in(api.And, 1, 12), in(api.And, 11, 2), in(api.And, 112, 1), in(api.And, 1, 1, 2), in(api.And, 12, 1), // the last one is alike
		in(api.Mux, 1, 11, 1), in(api.Mux, 11, 1, 1), in(api.Mux, 1, 1, 11), in(api.Mux, 111, 1, 1), in(api.Mux, 1, 11, 1),
		in(api.Or, 9, 10), in(api.Or, 10, 9), in(api.Or, 10, 90, 9), in(api.Or, 90, 109), in(api.Or, 9, 10, 90),
		in(api.Buf, 12), in(api.Buf, 1), in(api.Not, 1), in(api.Not, 12), in(api.Buf, 12))
	c := of([]int{134, 139, 141, 144, 149}, nodes...)
	to := upTo(len(nodes))
	to[134], to[139], to[141], to[144], to[149] = 130, 135, 140, 142, 145
	r, e := Merge(c)
	for i, want := range to {
		if e != api.OK || r.Map[i] != want {
			t.Errorf("node %d: %d, not %d, with error %d", i, r.Map[i], want, e)
		}
	}
	c.Outs = []int{130, 135, 140, 142, 145}
	if !netlists.Same(r.Circuit, c) {
		t.Error(text(r.Circuit))
	}
}

// TestMergeFirst checks that the first one of alike nodes has the lowest index, as all of them have the same level.
func TestMergeFirst(t *testing.T) {
	for i, c := range circuits(500, 25, 2) {
		r, _ := Merge(c)
		levels, _ := netlists.Levels(c)
		for n, first := range r.Map {
			if first > n || levels[first] != levels[n] || r.Map[first] != first || c.Nodes[first].Kind != c.Nodes[n].Kind {
				t.Errorf("circuit %d: %d becomes %d", i, n, first)
			}
		}
		if again, _ := Merge(r.Circuit); !netlists.Same(again.Circuit, r.Circuit) {
			t.Errorf("circuit %d: %s after merging twice, not %s", i, text(again.Circuit), text(r.Circuit))
		}
	}
}
