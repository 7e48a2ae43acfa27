package rewrites_test

import (
	"slices"
	"testing"

	"probecard/api"
	"probecard/cones"
	"probecard/netlists"
	. "probecard/rewrites"
)

// P11.1, Sweep

// TestSweepCones has nodes outside and inside of the cones of outputs, of the data of Dff nodes, and of all ports.
func TestSweepCones(t *testing.T) {
	for _, x := range []struct {
		given, want string
		to          []int
	}{
		{"", "", nil},
		{"INPUT(a); INPUT(b); OUTPUT(b)", "INPUT(a); INPUT(b); OUTPUT(b)", []int{0, 1}},
		{"INPUT(a); x = NOT(a); y = NOT(x)", "INPUT(a)", []int{0, -1, -1}},
		{"x = NOT(a); o = ONE(); z = ZERO(); INPUT(a); b = BUF(z)", "INPUT(a)", []int{-1, -1, -1, 0, -1}},
		{"INPUT(a); x = NOT(a); y = NOT(x); OUTPUT(x)", "INPUT(a); x = NOT(a); OUTPUT(x)", []int{0, 1, -1}},
		{"y = NOT(x); INPUT(a); w = OR(y, a); x = NOT(a); OUTPUT(x); OUTPUT(a); OUTPUT(x)", "INPUT(a); x = NOT(a); OUTPUT(x); OUTPUT(a); OUTPUT(x)", []int{-1, 0, -1, 1}},
		{"u = NOT(q); x = NOT(a); q = DFF(w); v = NOT(x); INPUT(a); w = XOR(x, q); r = DFF(q)", "x = NOT(a); q = DFF(w); INPUT(a); w = XOR(x, q); r = DFF(q)", []int{-1, 0, 1, -1, 2, 3, 4}},
		{"INPUT(a); t = TRI(a, a); u = TRI(a, a); s = BUS(t, u); v = BUS(u); OUTPUT(v)", "INPUT(a); u = TRI(a, a); v = BUS(u); OUTPUT(v)", []int{0, -1, 1, -1, 2}},
		{"o = ONE(); q = DFF(q); z = ZERO(); OUTPUT(z)", "q = DFF(q); z = ZERO(); OUTPUT(z)", []int{-1, 0, 1}},
		{
			"INPUT(a); u = NOT(a); v = NOT(u); w = NOT(a); m = MEM(1, 0); x = NOT(m); y = NOT(w); n = MEM(0, 0); MEMORY(v, 1, w, w); MEMORY(a, 1, y, a)",
			"INPUT(a); u = NOT(a); v = NOT(u); w = NOT(a); m = MEM(1, 0); y = NOT(w); n = MEM(0, 0); MEMORY(v, 1, w, w); MEMORY(a, 1, y, a)",
			[]int{0, 1, 2, 3, 4, -1, 5, 6},
		},
		{
			"x = NOT(m); m = MEM(0, 1); n = MEM(0, 1); y = AND(x, n); z = NOT(a); d = NOT(m); INPUT(a); MEMORY(a, 2, a, z, a, d)",
			"m = MEM(0, 1); n = MEM(0, 1); z = NOT(a); d = NOT(m); INPUT(a); MEMORY(a, 2, a, z, a, d)",
			[]int{-1, 0, 1, -1, 2, 3, 4},
		},
	} {
		expectText(t, Sweep, x.given, x.want, x.to)
	}
}

// TestSweepRest checks which nodes remain, whatever their order, and that a second sweep changes nothing.
func TestSweepRest(t *testing.T) {
	for i, c := range circuits(500, 25, 2) {
		r, _ := Sweep(c)
		k := 0
		for n, to := range r.Map {
			observed := slices.ContainsFunc(cones.Points(c), func(point int) bool {
				cone, _ := cones.Fanin(c, point)
				return slices.Contains(cone, n)
			})
			remains := observed || !netlists.Comb(c.Nodes[n].Kind)
			switch {
			case !remains && to != -1 || remains && to != k:
				t.Errorf("circuit %d: %d becomes %d", i, n, to)
			case remains && (r.Circuit.Names[k] != c.Names[n] || r.Circuit.Nodes[k].Kind != c.Nodes[n].Kind):
				t.Errorf("circuit %d: %d is %s", i, n, r.Circuit.Names[k])
			}
			if remains {
				k++
			}
		}
		if again, _ := Sweep(r.Circuit); k != len(r.Circuit.Nodes) || !netlists.Same(again.Circuit, r.Circuit) || !slices.Equal(again.Map, upTo(k)) {
			t.Errorf("circuit %d: %s after sweeping twice, not %s", i, text(again.Circuit), text(r.Circuit))
		}
	}
}

// TestSweepLarge has as many nodes and outputs as there may be.
func TestSweepLarge(t *testing.T) {
	n := api.MaxNodes
	nodes, outs := make([]api.Node, n), make([]int, n)
	for i := range nodes {
		if i < n-1 {
			nodes[i] = in(api.Not, i+1)
		}
		outs[i] = n/2 + i/2
	}
	r, e := Sweep(of(outs, nodes...))
	if e != api.OK || len(r.Circuit.Nodes) != n/2 || r.Map[n/2-1] != -1 || r.Map[n/2] != 0 || r.Map[n-1] != n/2-1 || r.Circuit.Outs[n-1] != n/2-1 {
		t.Errorf("%d nodes remain, with error %d", len(r.Circuit.Nodes), e)
	}
	if r, e = Sweep(of(nil, nodes...)); e != api.OK || len(r.Circuit.Nodes) != 1 || r.Map[n-1] != 0 || r.Circuit.Names[0] != "n16383" {
		t.Errorf("%d nodes remain, with error %d", len(r.Circuit.Nodes), e)
	}
}
