package rewrites_test

import (
	"slices"
	"testing"

	"probecard/api"
	"probecard/netlists"
	. "probecard/rewrites"
)

// P11.2

// TestSimplify has circuits that become simple in one round or in several ones.
func TestSimplify(t *testing.T) {
	for _, x := range []struct {
		given, want string
		to          []int
	}{
		{"", "", nil},
		{"INPUT(a); q = DFF(q)", "INPUT(a); q = DFF(q)", []int{0, 1}},
		{"o = ONE(); z = ZERO()", "", []int{-1, -1}},
		{text(example()), "INPUT(a); h = OR(a, a); OUTPUT(h); OUTPUT(h)", []int{0, -1, -1, -1, -1, 1, 1}},
		{ // constants, chains and alike nodes in one round
			"INPUT(a); z = ZERO(); x = XOR(a, z); y = AND(x, z); w = NOR(y, x); v = NOT(w); OUTPUT(v); OUTPUT(y)",
			"INPUT(a); z = ZERO(); w = NOT(a); v = NOT(w); OUTPUT(v); OUTPUT(z)",
			[]int{0, 1, -1, 1, 2, 3},
		},
		{ // the Tri is constant, but only after the first round no Bus reads it
			"INPUT(a); o = ONE(); t = TRI(o, o); b = BUS(t); OUTPUT(t)",
			"INPUT(a); o = ONE(); OUTPUT(o)",
			[]int{0, 1, 1, 1},
		},
		{ // the Bus is not constant, but not observed
			"INPUT(a); o = ONE(); t = TRI(o, o); u = TRI(a, a); b = BUS(t, u); x = MUX(a, t, o); y = OR(a, x); OUTPUT(t); OUTPUT(y); OUTPUT(u)",
			"INPUT(a); o = ONE(); u = TRI(a, a); OUTPUT(o); OUTPUT(o); OUTPUT(u)",
			[]int{0, 1, 1, 2, -1, 1, 1},
		},
		{ // a Tri becomes constant in the second round, and another node is then like one that it was not like before
			"INPUT(a); z = ZERO(); o = ONE(); t = TRI(o, z); s = BUS(t); x = MUX(a, a, t); y = MUX(a, a, z); OUTPUT(x); OUTPUT(y)",
			"INPUT(a); z = ZERO(); x = MUX(a, a, z); OUTPUT(x); OUTPUT(x)",
			[]int{0, 1, -1, 1, 1, 2, 2},
		},
		{ // the replacement of a node is removed in the same round or in a later one
			"INPUT(a); n = NOT(a); m = NOT(a); k = NOT(n); j = NOT(m); OUTPUT(a)",
			"INPUT(a); OUTPUT(a)",
			[]int{0, -1, -1, -1, -1},
		},
		{ // Mem nodes are kept, but replaced
			"n = MEM(0, 0); INPUT(a); m = MEM(0, 0); x = BUF(a); k = MEM(0, 0); MEMORY(x, 1, x, x)",
			"n = MEM(0, 0); INPUT(a); m = MEM(0, 0); k = MEM(0, 0); MEMORY(a, 1, a, a)",
			[]int{0, 1, 0, -1, 0},
		},
		{
			"INPUT(a); n = MEM(0, 1); b = BUF(a); m = MEM(0, 1); x = AND(n, m); y = AND(m, n); w = OR(x, y, z); z = ZERO(); OUTPUT(w); MEMORY(b, 1, y, x, w)",
			"INPUT(a); n = MEM(0, 1); m = MEM(0, 1); x = AND(n, n); w = OR(x, x); OUTPUT(w); MEMORY(a, 1, x, x, w)",
			[]int{0, 1, -1, 1, 3, 3, 4, -1},
		},
		{ // Dff nodes are not replaced, although their data are equal
			"INPUT(a); q = DFF(x); r = DFF(y); x = NOR(a, q); y = NOR(q, a); z = XNOR(q, r); OUTPUT(z); OUTPUT(r)",
			"INPUT(a); q = DFF(x); r = DFF(x); x = NOR(a, q); z = XNOR(q, r); OUTPUT(z); OUTPUT(r)",
			[]int{0, 1, 2, 3, 3, 4},
		},
		{ // outputs that may be Z
			"INPUT(a); b = BUF(a); t = TRI(a, b); u = BUS(t); v = BUF(u); w = NOT(u); x = NOT(w); OUTPUT(b); OUTPUT(u); OUTPUT(v); OUTPUT(x); OUTPUT(a)",
			"INPUT(a); b = BUF(a); t = TRI(a, a); u = BUS(t); v = BUF(u); w = NOT(u); x = NOT(w); OUTPUT(b); OUTPUT(u); OUTPUT(v); OUTPUT(x); OUTPUT(a)",
			[]int{0, 1, 2, 3, 4, 5, 6},
		},
	} {
		expectText(t, Simplify, x.given, x.want, x.to)
		expect(t, "Simplify", read(x.given))
	}
}

// TestExample has the chapter's example, one step after the other.
func TestExample(t *testing.T) {
	all := upTo(7)
	last := text(example())
	for i, x := range []struct {
		want string
		to   []int
	}{
		{"INPUT(a); o = ONE(); g = BUF(a); n = NOT(g); m = NOT(n); h = OR(m, a); k = OR(a, g); OUTPUT(h); OUTPUT(k)", all},
		{"INPUT(a); o = ONE(); g = BUF(a); n = NOT(a); m = NOT(n); h = OR(a, a); k = OR(a, a); OUTPUT(h); OUTPUT(k)", all},
		{"INPUT(a); o = ONE(); g = BUF(a); n = NOT(a); m = NOT(n); h = OR(a, a); k = OR(a, a); OUTPUT(h); OUTPUT(h)", []int{0, 1, 2, 3, 4, 5, 5}},
		{"INPUT(a); h = OR(a, a); OUTPUT(h); OUTPUT(h)", []int{0, -1, -1, -1, -1, 1, -1}},
	} {
		expectText(t, functions()[i].of, last, x.want, x.to)
		last = x.want
	}
}

// rounds returns the result of the four functions in turn until nothing changes, and the number of rounds.
func rounds(c api.Circuit) (Result, int) {
	to := upTo(len(c.Nodes))
	for n := 1; ; n++ {
		before := c
		for _, f := range functions()[:4] {
			r, _ := f.of(c)
			c = r.Circuit
			for i, k := range to {
				if k != -1 {
					to[i] = r.Map[k]
				}
			}
		}
		if netlists.Same(before, c) {
			return Result{c, to}, n
		}
	}
}

// TestSimplifyRounds compares Simplify with the other functions.
func TestSimplifyRounds(t *testing.T) {
	seen := map[int]int{}
	for i, c := range slices.Concat(circuits(1000, 30, 0), circuits(1000, 40, 2), circuits(20, 400, 2)) {
		want, n := rounds(c)
		seen[n]++
		r, e := Simplify(c)
		if e != api.OK || !netlists.Same(r.Circuit, want.Circuit) || !slices.Equal(r.Map, want.Map) {
			t.Errorf("circuit %d: %s and %v, not %s and %v, with error %d", i, text(r.Circuit), r.Map, text(want.Circuit), want.Map, e)
		}
		if e := netlists.Check(r.Circuit); e != api.OK {
			t.Errorf("circuit %d: the result has error %d", i, e)
		}
	}
	if seen[1] < 20 || seen[2] < 500 || seen[3] < 3 {
		t.Errorf("circuits with numbers of rounds: %v", seen)
	}
}

// TestSimplifyAgain simplifies circuits twice: only Mem nodes still have others that replace them.
func TestSimplifyAgain(t *testing.T) {
	mems := 0
	for i, c := range slices.Concat(circuits(1000, 30, 0), circuits(1000, 40, 2)) {
		once, _ := Simplify(c)
		twice, e := Simplify(once.Circuit)
		if e != api.OK || !netlists.Same(twice.Circuit, once.Circuit) {
			t.Errorf("circuit %d: %s, not %s, with error %d", i, text(twice.Circuit), text(once.Circuit), e)
		}
		for n, to := range twice.Map {
			switch {
			case to == n:
			case once.Circuit.Nodes[n].Kind != api.Mem || to != mergeOf(once.Circuit).Map[n]:
				t.Errorf("circuit %d: %d becomes %d", i, n, to)
			default:
				mems++
			}
		}
		for _, f := range functions()[:4] {
			if r, _ := f.of(once.Circuit); !netlists.Same(r.Circuit, once.Circuit) {
				t.Errorf("circuit %d: %s changes it to %s", i, f.name, text(r.Circuit))
			}
		}
	}
	if mems < 20 {
		t.Errorf("%d replaced Mem nodes", mems)
	}
}

// TestSimplifyLarge has circuits at the limits.
func TestSimplifyLarge(t *testing.T) {
	n := api.MaxNodes
	nodes := make([]api.Node, n)
	nodes[1], nodes[2] = in(api.One), in(api.Dff, n-1)
	for i := 3; i < n; i++ {
		nodes[i] = in(api.Not, i-1) // two of three nodes
		if i%3 == 0 {
			nodes[i] = in(api.And, i-1, 0, 1)
		}
	}
	outs := slices.Repeat([]int{n - 1}, n)
	r, e := Simplify(of(outs, nodes...))
	want, _ := rounds(of(outs, nodes...))
	if e != api.OK || !netlists.Same(r.Circuit, want.Circuit) || !slices.Equal(r.Map, want.Map) || len(r.Circuit.Nodes) != n/3+2 {
		t.Errorf("%d nodes remain, with error %d", len(r.Circuit.Nodes), e)
	}
}
