package rewrites_test

import (
	"slices"
	"strconv"
	"strings"
	"testing"

	"probecard/api"
	"probecard/logic"
	"probecard/netlists"
	. "probecard/rewrites"
	"probecard/sims"
)

// P11.3

// TestEqual has circuits that are equal, and circuits with their first difference.
func TestEqual(t *testing.T) {
	for _, x := range []struct{ a, b, first string }{
		{"", "", "equal"},
		{"o = ONE(); OUTPUT(o)", "z = ZERO(); n = NOT(z); OUTPUT(n)", "equal"},
		{"o = ONE(); OUTPUT(o)", "z = ZERO(); OUTPUT(z)", " "},
		{"INPUT(a)", "INPUT(a); x = NOT(a)", "equal"},
		{"INPUT(a); b = BUF(a); OUTPUT(b)", "INPUT(a); b = NOT(a); OUTPUT(b)", "0 "},
		{"INPUT(a); OUTPUT(a)", "o = ONE(); INPUT(a); x = AND(a, o, a); OUTPUT(x)", "equal"},
		{"INPUT(a); INPUT(b); x = AND(a, b); OUTPUT(x)", "INPUT(a); INPUT(b); x = OR(b, a); OUTPUT(x)", "10 "},
		{"INPUT(a); INPUT(b); OUTPUT(b)", "INPUT(a); INPUT(b); x = AND(b, b); n = NOT(a); y = OR(x, n); w = AND(y, b); OUTPUT(w)", "equal"},
		{"INPUT(a); INPUT(b); OUTPUT(b)", "INPUT(a); INPUT(b); n = NOT(a); x = AND(b, n); OUTPUT(x)", "11 "},
		{"INPUT(a); INPUT(b); OUTPUT(b)", "INPUT(a); INPUT(b); x = AND(a, b); OUTPUT(x)", "01 "},
		{"INPUT(a); INPUT(b); x = XOR(a, b); OUTPUT(x)", "INPUT(b); INPUT(a); x = OR(b, a); OUTPUT(x)", "11 "},
		{"INPUT(a); INPUT(b); x = XOR(a, b); OUTPUT(x); OUTPUT(a)", "INPUT(b); INPUT(a); x = XOR(b, a); OUTPUT(x); OUTPUT(a)", "10 "},
		{"INPUT(a); INPUT(b); x = NAND(a, b); OUTPUT(x)", "INPUT(c); INPUT(d); n = NOT(c); m = NOT(d); x = OR(n, m); OUTPUT(x)", "equal"},
		// states follow the inputs, wherever their nodes stand
		{"q = DFF(a); INPUT(a); OUTPUT(a)", "INPUT(a); q = DFF(x); x = AND(a, q); OUTPUT(a)", "1 0"},
		{"q = DFF(a); r = DFF(q); INPUT(a)", "q = DFF(a); INPUT(a); r = DFF(r)", "0 10"},
		{"q = DFF(q); r = DFF(q); INPUT(a); x = MUX(a, q, r); OUTPUT(x)", "q = DFF(q); r = DFF(q); INPUT(a); OUTPUT(q)", "1 10"},
		{"q = DFF(q); r = DFF(q); INPUT(a); x = OR(a, r); y = AND(x, q); OUTPUT(y)", "q = DFF(q); r = DFF(q); INPUT(a); x = AND(q, r); OUTPUT(x)", "1 10"},
		{"q = DFF(q); r = DFF(q); INPUT(a); x = AND(a, r); y = AND(x, q); OUTPUT(y)", "q = DFF(q); r = DFF(q); INPUT(a); x = AND(q, r); OUTPUT(x)", "0 11"},
		{"q = DFF(q); OUTPUT(q); OUTPUT(q)", "r = DFF(r); OUTPUT(r); OUTPUT(r)", "equal"},
		{"q = DFF(q)", "q = DFF(n); n = NOT(q)", " 0"},
		// values other than 0 and 1 are compared, too
		{"INPUT(a); t = TRI(a, a); OUTPUT(t)", "INPUT(a); t = BUF(a); OUTPUT(t)", "0 "},
		{"INPUT(a); t = TRI(a, a); OUTPUT(t)", "INPUT(a); o = ONE(); t = TRI(a, o); OUTPUT(t)", "equal"},
		{"INPUT(a); n = NOT(a); t = TRI(n, a); OUTPUT(t)", "INPUT(a); OUTPUT(a)", "1 "},
		{"INPUT(a); t = TRI(a, a); b = BUF(t); OUTPUT(b)", "INPUT(a); t = TRI(a, a); OUTPUT(t)", "0 "},
		{"INPUT(a); z = ZERO(); t = TRI(z, a); x = NOT(t); OUTPUT(x)", "INPUT(a); z = ZERO(); t = TRI(z, z); x = AND(t, t); OUTPUT(x)", "equal"},
		{"INPUT(a); t = TRI(a, a); q = DFF(t)", "INPUT(a); t = TRI(a, a); b = BUF(t); q = DFF(b)", "equal"},
		{"INPUT(a); o = ONE(); t = TRI(o, a); u = TRI(o, o); s = BUS(t, u); OUTPUT(s)", "INPUT(a); o = ONE(); OUTPUT(o)", "0 "},
		{text(example()), "INPUT(x); OUTPUT(x); OUTPUT(x)", "equal"},
		{text(example()), "INPUT(x); n = NOT(x); OUTPUT(x); OUTPUT(n)", "0 "},
	} {
		a, b := read(x.a), read(x.b)
		for range 2 {
			p, same, e := Equal(a, b)
			if first := logic.Text(p.In...) + " " + logic.Text(p.State...); e != api.OK || same != (x.first == "equal") || !same && first != x.first || same && first != " " {
				t.Errorf("%s and %s: %q and %t, not %q, with error %d", x.a, x.b, first, same, x.first, e)
			}
			expectEqual(t, "reference", a, b)
			a, b = b, a
		}
	}
}

// sized returns a circuit with numbers of inputs, states and outputs, a memory or none, and a flaw or none.
func sized(inputs, states, outs int, memory bool, flaw api.Errno) api.Circuit {
	var c api.Circuit
	for range inputs {
		c.Nodes = append(c.Nodes, in(api.Input))
	}
	for range states {
		c.Nodes = append(c.Nodes, in(api.Dff, len(c.Nodes)))
	}
	c.Nodes = append(c.Nodes, in(api.One))
	c.Outs = make([]int, outs)
	if memory {
		c.Mems = []api.Memory{{Addr: []int{0}, Data: []int{0}}}
	}
	c = named(c)
	switch flaw {
	case api.ErrName:
		c.Names[0] = "("
	case api.ErrLoop:
		c.Nodes[len(c.Nodes)-1] = in(api.Not, len(c.Nodes)-1)
	case api.ErrArg:
		c.Outs = append(c.Outs, -1)
	case api.ErrLimit:
		c.Mems = make([]api.Memory, api.MaxMems+1)
	case api.ErrKind:
		c.Nodes[0].Kind = 77
	case api.ErrWidth:
		c.Names = nil
	}
	return c
}

// TestEqualErrors has all errors alone, and every two of them in both circuits.
func TestEqualErrors(t *testing.T) {
	var l []api.Circuit
	for _, flaw := range []api.Errno{api.OK, api.ErrName, api.ErrLoop, api.ErrArg, api.ErrLimit, api.ErrKind, api.ErrWidth} {
		for _, memory := range []bool{false, true} {
			for _, size := range [][3]int{{1, 2, 1}, {2, 1, 1}, {1, 1, 2}, {2, 2, 1}, {13, 0, 1}, {0, 13, 1}, {7, 6, 1}, {13, 0, 2}, {14, 13, 0}} {
				l = append(l, sized(size[0], size[1], size[2], memory, flaw))
			}
		}
	}
	seen := map[api.Errno]int{}
	for i, a := range l {
		for k, b := range l {
			_, e := expectEqual(t, strconv.Itoa(i)+" and "+strconv.Itoa(k), a, b)
			seen[e]++
		}
	}
	for _, e := range []api.Errno{api.OK, api.ErrName, api.ErrLoop, api.ErrArg, api.ErrLimit, api.ErrKind, api.ErrWidth} {
		if seen[e] < 4 {
			t.Errorf("%d times error %d", seen[e], e)
		}
	}
}

// TestEqualOneError has each error alone, and the two that are next to each other.
func TestEqualOneError(t *testing.T) {
	good := func() api.Circuit { return sized(2, 1, 1, false, api.OK) }
	memory := sized(2, 1, 1, true, api.OK)
	for _, x := range []struct {
		a, b api.Circuit
		want api.Errno
	}{
		{good(), good(), api.OK},
		{sized(2, 1, 1, false, api.ErrName), good(), api.ErrName},
		{good(), sized(2, 1, 1, false, api.ErrLoop), api.ErrLoop},
		{sized(2, 1, 1, false, api.ErrName), sized(2, 1, 1, false, api.ErrLoop), api.ErrName},
		{sized(2, 1, 1, false, api.ErrLoop), sized(2, 1, 1, false, api.ErrName), api.ErrLoop},
		{memory, good(), api.ErrKind},
		{good(), memory, api.ErrKind},
		{memory, memory, api.ErrKind},
		{memory, sized(2, 1, 1, false, api.ErrArg), api.ErrArg},
		{memory, sized(3, 1, 1, false, api.OK), api.ErrKind},
		{sized(3, 1, 1, false, api.OK), memory, api.ErrKind},
		{full(), plain(), api.ErrKind},
		{plain(), withMemory(), api.ErrKind},
		{sized(1, 1, 1, false, api.OK), good(), api.ErrWidth},
		{good(), sized(3, 1, 1, false, api.OK), api.ErrWidth},
		{good(), sized(2, 2, 1, false, api.OK), api.ErrWidth},
		{good(), sized(2, 0, 1, false, api.OK), api.ErrWidth},
		{good(), sized(1, 2, 1, false, api.OK), api.ErrWidth}, // as many in all
		{good(), sized(2, 1, 0, false, api.OK), api.ErrWidth},
		{good(), sized(2, 1, 2, false, api.OK), api.ErrWidth},
		{sized(13, 0, 1, false, api.OK), sized(13, 1, 1, false, api.OK), api.ErrWidth},
		{sized(12, 2, 1, false, api.OK), sized(13, 1, 1, false, api.OK), api.ErrWidth},
		{sized(12, 12, 1, false, api.OK), sized(12, 12, 2, false, api.OK), api.ErrWidth},
		{sized(12, 1, 1, false, api.OK), sized(12, 1, 1, false, api.OK), api.ErrLimit},
		{sized(100, 100, 1, false, api.OK), sized(100, 100, 1, false, api.OK), api.ErrLimit},
	} {
		if p, same, e := Equal(x.a, x.b); e != x.want || same != (e == api.OK) || len(p.In)+len(p.State) > 0 {
			t.Errorf("%s and %s: %v, %t and error %d, not %d", text(x.a), text(x.b), p, same, e, x.want)
		}
	}
	for _, f := range flaws() {
		for _, c := range flawed(f.change) {
			for _, other := range []api.Circuit{plain(), full(), {}} {
				expectEqual(t, f.name, c, other)
				expectEqual(t, f.name, other, c)
			}
		}
	}
}

// TestEqualLimit has 12 and 13 Input and Dff nodes in all: circuits that are equal, and circuits with a single difference.
func TestEqualLimit(t *testing.T) {
	for inputs := range 14 {
		for _, all := range []int{12, 13} {
			if inputs > all {
				continue
			}
			c := sized(inputs, all-inputs, 0, false, api.OK)
			for i := range c.Nodes[:all] {
				if c.Nodes[i].Kind == api.Dff {
					c.Nodes[i].In[0] = (i + 5) % all
				}
			}
			other := netlists.Copy(c)
			last := len(c.Nodes)
			c.Nodes = append(c.Nodes, in(api.And, upTo(all)...))
			c.Outs, other.Outs = []int{last}, []int{last}
			other.Nodes = append(other.Nodes, in(api.Zero))
			c, other = named(c), named(other)
			p, same, e := Equal(c, other)
			if all == 13 {
				if e != api.ErrLimit || same || len(p.In)+len(p.State) > 0 {
					t.Errorf("%d inputs: %v, %t and error %d", inputs, p, same, e)
				}
				continue
			}
			if ones := logic.Text(p.In...) + logic.Text(p.State...); e != api.OK || same || len(p.In) != inputs || ones != strings.Repeat("1", 12) {
				t.Errorf("%d inputs: %v, %t and error %d", inputs, p, same, e)
			}
			if p, same, e = Equal(c, netlists.Copy(c)); e != api.OK || !same || len(p.In)+len(p.State) > 0 {
				t.Errorf("%d inputs: %v, %t and error %d", inputs, p, same, e)
			}
		}
	}
}

// TestEqualOnePattern has circuits that differ for one pattern or for two.
func TestEqualOnePattern(t *testing.T) {
	head := []api.Node{in(api.Input), in(api.Dff, 5), in(api.Input), in(api.Dff, 0), in(api.Zero), in(api.Or, 0, 3)}
	digits := []int{0, 2, 1, 3} // the nodes of the digits
	// minterm adds nodes that are 1 for one pattern.
	minterm := func(nodes []api.Node, number int) []api.Node {
		var l []int
		for i, node := range digits {
			l = append(l, node)
			if number>>i%2 == 0 {
				l[i] = len(nodes)
				nodes = append(nodes, in(api.Not, node))
			}
		}
		return append(nodes, in(api.And, l...))
	}
	base := of([]int{4}, head...)
	for k := range 16 {
		for m := range 16 {
			nodes := minterm(head, k)
			first := len(nodes) - 1
			nodes = minterm(nodes, m)
			c := of([]int{len(nodes)}, append(nodes, in(api.Or, first, len(nodes)-1))...)
			want := numbered(base, min(k, m))
			p, same, e := Equal(base, c)
			if e != api.OK || same || !slices.Equal(p.In, want.In) || !slices.Equal(p.State, want.State) {
				t.Errorf("%d and %d: %v, %t and error %d", k, m, p, same, e)
			}
			expectEqual(t, "patterns", c, base)
		}
	}
}

// TestEqualRandom compares random circuits with their simplifications, with changed ones and with others.
func TestEqualRandom(t *testing.T) {
	r := random(113)
	seen := map[bool]int{}
	for i, c := range circuits(400, 20, 0) {
		if count(c, api.Input)+count(c, api.Dff) > 7 {
			continue
		}
		simple, _ := Simplify(c)
		if same, e := expectEqual(t, "simplified "+strconv.Itoa(i), c, simple.Circuit); !same || e != api.OK {
			t.Errorf("circuit %d: %t and error %d", i, same, e)
		}
		other := netlists.Copy(simple.Circuit)
		for k := range other.Nodes {
			if n := &other.Nodes[k]; n.Kind >= api.And && n.Kind <= api.Xnor && r.below(2) == 0 {
				n.Kind = api.And + api.Kind(r.below(6))
			}
		}
		same, _ := expectEqual(t, "changed "+strconv.Itoa(i), c, other)
		seen[same]++
		expectEqual(t, "other "+strconv.Itoa(i), c, r.circuit(1+r.below(6), 1))
	}
	if seen[true] < 50 || seen[false] < 50 {
		t.Errorf("%v", seen)
	}
}

// TestEqualKnown has circuits that differ only for patterns with unknown values, which are not compared.
func TestEqualKnown(t *testing.T) {
	a, b := read("INPUT(a); n = NOT(a); x = OR(a, n); OUTPUT(x)"), read("INPUT(a); o = ONE(); OUTPUT(o)")
	if _, same, e := Equal(a, b); !same || e != api.OK {
		t.Errorf("%t and error %d", same, e)
	}
	p := api.Pattern{In: values("X")}
	ra, _, _ := sims.Run(a, p)
	rb, _, _ := sims.Run(b, p)
	if sameResponse(ra, rb) {
		t.Error("they do not differ at all")
	}
}
