package rewrites_test

import (
	"slices"
	"strconv"
	"testing"

	"probecard/api"
	"probecard/netlists"
	. "probecard/rewrites"
)

// P11.1, Buffers

// TestBuffersPins has chains of Buf and Not, and pins of all kinds that read them.
func TestBuffersPins(t *testing.T) {
	for _, x := range []struct{ given, want string }{
		{"", ""},
		{"INPUT(a); x = AND(a, a)", "INPUT(a); x = AND(a, a)"},
		{"INPUT(a); b = BUF(a); c = BUF(b); d = BUF(c); x = AND(d, b)", "INPUT(a); b = BUF(a); c = BUF(a); d = BUF(a); x = AND(a, a)"},
		{"x = OR(d, c); d = BUF(c); c = BUF(b); b = BUF(a); INPUT(a)", "x = OR(a, a); d = BUF(a); c = BUF(a); b = BUF(a); INPUT(a)"},
		{"INPUT(a); n = NOT(a); x = XOR(n, a)", "INPUT(a); n = NOT(a); x = XOR(n, a)"},
		{"INPUT(a); n = NOT(a); m = NOT(n); x = XOR(m, n)", "INPUT(a); n = NOT(a); m = NOT(n); x = XOR(a, n)"},
		{"INPUT(a); n = NOT(a); m = NOT(n); k = NOT(m); j = NOT(k); x = NOR(n, m, k, j)", "INPUT(a); n = NOT(a); m = NOT(n); k = NOT(a); j = NOT(k); x = NOR(n, a, k, a)"},
		{"INPUT(a); n = NOT(a); b = BUF(n); m = NOT(b); c = BUF(m); k = NOT(c); x = NAND(b, m, c, k)", "INPUT(a); n = NOT(a); b = BUF(n); m = NOT(n); c = BUF(a); k = NOT(a); x = NAND(n, a, a, k)"},
		{"INPUT(a); b = BUF(a); n = NOT(b); c = BUF(n); d = BUF(c); m = NOT(d); x = BUF(m)", "INPUT(a); b = BUF(a); n = NOT(a); c = BUF(n); d = BUF(n); m = NOT(n); x = BUF(a)"},
		{"INPUT(a); INPUT(b); g = NAND(a, b); n = NOT(g); m = NOT(n); k = NOT(m); x = XNOR(k, m, n, g)", "INPUT(a); INPUT(b); g = NAND(a, b); n = NOT(g); m = NOT(n); k = NOT(g); x = XNOR(k, g, n, g)"},
		{"INPUT(a); b = BUF(a); x = MUX(b, b, a); y = TRI(b, x); z = BUS(y); w = BUF(z); v = NOT(w)", "INPUT(a); b = BUF(a); x = MUX(a, a, a); y = TRI(a, x); z = BUS(y); w = BUF(z); v = NOT(z)"},
		{"o = ONE(); n = NOT(o); m = NOT(n); b = BUF(o); x = AND(m, b, n)", "o = ONE(); n = NOT(o); m = NOT(n); b = BUF(o); x = AND(o, o, n)"},
		{"b = BUF(q); q = DFF(b); c = BUF(q); n = NOT(c); m = NOT(n); r = DFF(m); s = DFF(n)", "b = BUF(q); q = DFF(q); c = BUF(q); n = NOT(q); m = NOT(n); r = DFF(q); s = DFF(n)"},
		{"INPUT(a); t = TRI(a, a); b = BUF(t); c = BUF(b); n = NOT(c); m = NOT(n); x = AND(b, c, m); u = TRI(m, n); s = BUS(u, t)", "INPUT(a); t = TRI(a, a); b = BUF(t); c = BUF(t); n = NOT(t); m = NOT(n); x = AND(t, t, t); u = TRI(t, n); s = BUS(u, t)"},
	} {
		expectInPlace(t, Buffers, x.given, x.want)
	}
}

// TestBuffersOutputs has outputs with sources of all kinds: only the values of gates are never Z.
func TestBuffersOutputs(t *testing.T) {
	for source, replaced := range map[string]bool{
		"INPUT(s)": false, "s = DFF(a)": false, "s = MEM(0, 0)": false, "s = TRI(a, a)": false, "t = TRI(a, a); s = BUS(t)": false,
		"s = ZERO()": true, "s = ONE()": true, "s = AND(a, a)": true, "s = NAND(a, a)": true, "s = OR(a, a)": true, "s = NOR(a, a)": true,
		"s = XOR(a, a)": true, "s = XNOR(a, a)": true, "s = MUX(a, a, a)": true, "s = NOT(a)": true,
	} {
		head := "INPUT(a); " + source + "; b = BUF(s); c = BUF(b); n = NOT(s); m = NOT(n); k = NOT(m); OUTPUT(s); "
		outs := "OUTPUT(b); OUTPUT(c); OUTPUT(n); OUTPUT(m); OUTPUT(k); MEMORY(a, 1, a, a)"
		to, want := "INPUT(a); "+source+"; b = BUF(s); c = BUF(s); n = NOT(s); m = NOT(n); k = NOT(s); OUTPUT(s); ", outs
		if replaced {
			want = "OUTPUT(s); OUTPUT(s); OUTPUT(n); OUTPUT(s); OUTPUT(k); MEMORY(a, 1, a, a)"
		}
		if source == "s = NOT(a)" { // n is the second Not, so that its source is a
			to = "INPUT(a); s = NOT(a); b = BUF(s); c = BUF(s); n = NOT(s); m = NOT(a); k = NOT(m); OUTPUT(s); "
			want = "OUTPUT(s); OUTPUT(s); OUTPUT(n); OUTPUT(m); OUTPUT(k); MEMORY(a, 1, a, a)"
		}
		expectInPlace(t, Buffers, head+outs, to+want)
	}
	expectInPlace(t, Buffers, "INPUT(a); b = BUF(a); OUTPUT(b); OUTPUT(a); OUTPUT(b)", "INPUT(a); b = BUF(a); OUTPUT(b); OUTPUT(a); OUTPUT(b)")
}

// TestBuffersPorts has all ports of memories.
func TestBuffersPorts(t *testing.T) {
	head, rest := "INPUT(a); INPUT(b); x = BUF(a); y = BUF(x); n = NOT(b); m = NOT(n); v = MEM(0, 0); w = BUF(v); ", "INPUT(a); INPUT(b); x = BUF(a); y = BUF(a); n = NOT(b); m = NOT(n); v = MEM(0, 0); w = BUF(v); "
	for ports, want := range map[string]string{
		"MEMORY(y, 1, a, a)":                                  "MEMORY(a, 1, a, a)",
		"MEMORY(n, 2, y, m, w, n)":                            "MEMORY(n, 2, a, b, v, n)",
		"MEMORY(m, 1, x, w); MEMORY(w, 3, n, y, x, m)":        "MEMORY(b, 1, a, v); MEMORY(v, 3, n, a, a, b)",
		"MEMORY(a, 1, b, v); MEMORY(v, 2, n, a, b, a)":        "MEMORY(a, 1, b, v); MEMORY(v, 2, n, a, b, a)",
		"MEMORY(y, 8, y, x, m, m, n, w, a, b, m, y)":          "MEMORY(a, 8, a, a, b, b, n, v, a, b, b, a)",
		"OUTPUT(w); OUTPUT(y); OUTPUT(m); MEMORY(w, 1, y, w)": "OUTPUT(w); OUTPUT(y); OUTPUT(m); MEMORY(v, 1, a, v)",
	} {
		expectInPlace(t, Buffers, head+ports, rest+want)
	}
	expectInPlace(t, Buffers,
		"INPUT(a); t = TRI(a, a); s = BUS(t); b = BUF(t); c = BUF(s); n = NOT(c); m = NOT(n); OUTPUT(c); MEMORY(m, 1, b, c)",
		"INPUT(a); t = TRI(a, a); s = BUS(t); b = BUF(t); c = BUF(s); n = NOT(s); m = NOT(n); OUTPUT(c); MEMORY(s, 1, t, s)")
}

// TestBuffersChain has chains of as many nodes as a circuit may have, in both directions.
func TestBuffersChain(t *testing.T) {
	for _, kind := range []api.Kind{api.Buf, api.Not} {
		for _, back := range []bool{false, true} {
			n := api.MaxNodes
			nodes, want := make([]api.Node, n), make([]api.Node, n)
			nodes[0], want[0] = in(api.Input), in(api.Input)
			for i := 1; i < n; i++ {
				nodes[i], want[i] = in(kind, i-1), in(kind, 0)
				if kind == api.Not {
					want[i].In[0] = (i - 1) % 2 * (i - 1) // a Not that is the second of two reads the first one
				}
			}
			c, w := of([]int{n - 1, 5}, nodes...), of([]int{n - 1, 5}, want...)
			to := upTo(n)
			if back {
				slices.Reverse(to)
				c, w = renumbered(c, to), renumbered(w, to)
			}
			r, e := Buffers(c)
			if e != api.OK || !netlists.Same(r.Circuit, w) || !slices.Equal(r.Map, upTo(n)) {
				t.Errorf("kind %d, back %t: error %d", kind, back, e)
			}
		}
	}
}

// TestBuffersRandom has circuits of Buf and Not nodes and few others.
func TestBuffersRandom(t *testing.T) {
	r := random(111)
	for i := range 500 {
		c := of(nil, in(api.Input), in(api.Dff, 0), in(api.Tri, 0, 1), in(api.Bus, 2), in(api.Or, 0, 1))
		for len(c.Nodes) < 20 {
			c.Nodes = append(c.Nodes, in(api.Buf+api.Kind(r.below(4)+2)/3, r.numbers(1, max(0, len(c.Nodes)-1-r.below(8)), len(c.Nodes))...))
		}
		c.Nodes[1].In[0] = r.below(20)
		c.Outs = r.numbers(4, 0, 20)
		c = renumbered(c, r.permutation(20))
		expect(t, "chains "+strconv.Itoa(i), c)
	}
}
