package faults_test

import (
	"math"
	"testing"

	"probecard/api"
	. "probecard/faults"
	"probecard/netlists"
)

// P12.1

// parsed returns the fault with a text.
func parsed(s string) api.Fault {
	f, e := parseOf(s)
	if e != api.OK {
		panic("no fault: " + s)
	}
	return f
}

// expectCheck expects the error of a fault from Check and from the chapter's words.
func expectCheck(t *testing.T, name string, c api.Circuit, f api.Fault, want api.Errno) {
	t.Helper()
	if e := Check(c, f); e != want {
		t.Errorf("%s: Check returns %d for %+v, not %d", name, e, f, want)
	}
	if e := checkError(c, f); e != want {
		t.Errorf("%s: the chapter asks for %d for %+v, not %d", name, e, f, want)
	}
}

// sheet has an input that is read by a chain (1, 2, 4), Tri nodes (5, 6) with their Bus (7), a Dff (8) that ends the dependence of node 9 on node 4, and two constants (10, 11).
const sheet = "INPUT(a); INPUT(b); n = NOT(a); m = BUF(b); g = AND(n, a, n); t = TRI(b, a); u = TRI(b, b); s = BUS(t, u); q = DFF(g); h = NOR(q, b); z = ZERO(); o = ONE()"

func TestCheckValid(t *testing.T) {
	c := read(sheet)
	for _, s := range []string{
		"stuck 0 0", "stuck 0 1", "slow 0 0", "slow 0 1", "stuck 4.2 1", "slow 4.2 0", "stuck 4.0 0", "stuck 8.0 1", "slow 8 0", "stuck 5 0", "slow 6.1 1", "stuck 7.0 1", "stuck 10 0", "slow 11 1", "stuck 11 0",
		"wired 0 1 0", "wired 0 1 1", "wired 0 3 0", "wired 2 3 1", "wired 8 10 1", "wired 10 11 0", "strong 0 1", "strong 1 0", "strong 11 2", "strong 2 11", "strong 3 4", "strong 4 3",
	} {
		expectCheck(t, s, c, parsed(s), api.OK)
	}
}

func TestCheckModels(t *testing.T) {
	c := read(sheet)
	for _, m := range []api.Model{4, 5, 6, 7, 8, 64, 127, 128, 254, 255} {
		expectCheck(t, "no model", c, api.Fault{Model: m}, api.ErrArg)
		expectCheck(t, "no model", c, api.Fault{Model: m, Line: api.Line{Node: 1, Pin: -1}}, api.ErrArg)
		expectCheck(t, "no model", c, api.Fault{Model: m, Line: api.Line{Node: 0, Pin: -1}, Other: 1}, api.ErrArg)
	}
}

func TestCheckValues(t *testing.T) {
	c := read(sheet)
	for _, v := range []api.Value{api.VX, api.VZ, 4, 5, 127, 128, 255} {
		for _, s := range []string{"stuck 0 0", "slow 4.1 1", "wired 0 1 0", "strong 0 1"} {
			f := parsed(s)
			f.Value = v
			expectCheck(t, "no value", c, f, api.ErrArg)
		}
	}
	for _, s := range []string{"strong 0 1", "strong 1 0", "strong 4 3"} {
		f := parsed(s)
		f.Value = api.V1
		expectCheck(t, "Strong with the value 1", c, f, api.ErrArg)
	}
}

// TestCheckNodes has nodes and pins at the ends of their ranges, below and above.
func TestCheckNodes(t *testing.T) {
	c := read(sheet)
	for _, m := range []api.Model{api.Stuck, api.Slow} {
		for _, node := range []int{-1, -2, 12, 13, math.MinInt, math.MaxInt, 1 << 32, 1<<32 + 1} {
			expectCheck(t, "no node", c, api.Fault{Model: m, Line: api.Line{Node: node, Pin: -1}}, api.ErrArg)
			expectCheck(t, "no node", c, api.Fault{Model: m, Line: api.Line{Node: node}}, api.ErrArg)
		}
		for node, n := range c.Nodes {
			for _, pin := range around(-1, len(n.In)-1) {
				want := api.ErrArg
				if -1 <= pin && pin < len(n.In) {
					want = api.OK
				}
				expectCheck(t, "a pin", c, api.Fault{Model: m, Line: api.Line{Node: node, Pin: pin}, Value: api.V1}, want)
			}
		}
		for _, other := range []int{1, 2, -1, 11, 12, math.MinInt, math.MaxInt, 1 << 32} {
			expectCheck(t, "with another net", c, api.Fault{Model: m, Line: api.Line{Node: 4, Pin: -1}, Other: other}, api.ErrArg)
			expectCheck(t, "with another net", c, api.Fault{Model: m, Line: api.Line{Node: 4, Pin: 2}, Other: other}, api.ErrArg)
		}
	}
}

func TestCheckBridges(t *testing.T) {
	c := read(sheet)
	for _, m := range []api.Model{api.Wired, api.Strong} {
		for _, i := range []int{-1, -2, 12, 13, math.MinInt, math.MaxInt, 1 << 32, 1<<32 + 1} {
			expectCheck(t, "no node", c, api.Fault{Model: m, Line: api.Line{Node: i, Pin: -1}, Other: 1}, api.ErrArg)
			expectCheck(t, "no other net", c, api.Fault{Model: m, Line: api.Line{Node: 0, Pin: -1}, Other: i}, api.ErrArg)
			expectCheck(t, "twice no net", c, api.Fault{Model: m, Line: api.Line{Node: i, Pin: -1}, Other: i}, api.ErrArg)
		}
		for i := range c.Nodes {
			expectCheck(t, "equal nets", c, api.Fault{Model: m, Line: api.Line{Node: i, Pin: -1}, Other: i}, api.ErrArg)
		}
		for _, pin := range []int{0, 1, 2, 3, -2, math.MinInt, math.MaxInt} {
			expectCheck(t, "at a pin", c, api.Fault{Model: m, Line: api.Line{Node: 2, Pin: pin}, Other: 3}, api.ErrArg)
			expectCheck(t, "at a pin", c, api.Fault{Model: m, Line: api.Line{Node: 4, Pin: pin}, Other: 10}, api.ErrArg)
		}
	}
	for _, s := range []string{"wired 1 0 0", "wired 1 0 1", "wired 11 10 0", "wired 11 0 1", "wired 4 3 0"} {
		expectCheck(t, "Wired from the higher net", c, parsed(s), api.ErrArg)
	}
	for _, s := range []string{"wired 0 5 0", "wired 0 5 1", "wired 3 6 1", "wired 5 6 0", "wired 5 8 0", "wired 6 11 1", "strong 5 8", "strong 8 5", "strong 10 6", "strong 6 5", "strong 5 6", "strong 7 5", "wired 5 7 0", "strong 0 5"} {
		expectCheck(t, "a Tri", c, parsed(s), api.ErrKind)
	}
}

func TestCheckLoops(t *testing.T) {
	c := read(sheet)
	for _, s := range []string{
		"wired 0 2 0", "wired 0 2 1", "wired 0 4 0", "wired 2 4 1", "strong 0 2", "strong 2 0", "strong 4 0", "strong 0 4", "wired 1 3 0", // through gates
		"wired 0 7 0", "strong 7 0", "strong 1 7", "wired 1 7 1", // through Tri and Bus nodes
		"wired 8 9 0", "strong 9 8", "strong 8 9", "wired 1 9 0", // from a Dff on
	} {
		expectCheck(t, "dependent nets", c, parsed(s), api.ErrLoop)
	}
	for _, s := range []string{"wired 4 8 0", "strong 4 8", "strong 8 4", "wired 4 9 1", "strong 9 4", "strong 0 9", "wired 0 8 0", "strong 8 0", "wired 2 9 0"} {
		expectCheck(t, "nets before and after a Dff", c, parsed(s), api.OK)
	}
	ring := read("q = DFF(n); n = NOT(q); r = DFF(r); p = DFF(q); INPUT(a)")
	expectCheck(t, "a Dff and its data", ring, parsed("wired 0 1 0"), api.ErrLoop) // the data depend on the Dff
	expectCheck(t, "a Dff and its data", ring, parsed("strong 0 1"), api.ErrLoop)
	for _, s := range []string{"wired 0 2 1", "wired 0 3 0", "strong 3 0", "strong 0 3", "strong 3 1", "wired 1 3 0", "strong 2 4", "wired 2 3 0"} {
		expectCheck(t, "Dff nodes", ring, parsed(s), api.OK)
	}
}

// TestCheckPins has dependence through each single pin of gates of all kinds.
func TestCheckPins(t *testing.T) {
	for kind := api.Buf; kind <= api.Dff; kind++ {
		for width := range api.MaxFanin + 1 {
			for pin := range width {
				nets := make([]int, width)
				for k := range nets {
					nets[k] = 2
				}
				nets[pin] = 0
				first := in(api.Input)
				if kind == api.Bus {
					first = in(api.Tri, 3, 3)
				}
				c := of(first, in(kind, nets...), first, in(api.Input), in(api.Xor, 1, 1))
				if netlists.Check(c) != api.OK {
					continue
				}
				for _, f := range product([]api.Model{api.Wired, api.Strong}, []int{0, 1, 2, 3, 4}, []int{-1}, []int{0, 1, 2, 3, 4}, []api.Value{0}) {
					expectCheck(t, "a pin", c, f, checkError(c, f))
				}
				if kind != api.Bus && kind != api.Tri && kind != api.Dff {
					expectCheck(t, "the pin's net", c, parsed("strong 1 0"), api.ErrLoop)
					expectCheck(t, "the pin's net", c, parsed("wired 0 4 1"), api.ErrLoop)
				}
			}
		}
	}
}

// TestCheckCircuits has circuits that netlists.Check refuses and circuits with memories, with faults of all sorts.
func TestCheckCircuits(t *testing.T) {
	l := []api.Fault{{}, parsed("wired 1 3 0"), parsed("strong 3 1"), parsed("slow 9.2 1"), {Model: 4}, {Line: api.Line{Node: -1}}, {Value: 2}, {Other: 1}, parsed("wired 3 1 0"), parsed("wired 1 7 0"), parsed("strong 1 16"), {Model: api.Strong, Line: api.Line{Node: 1, Pin: -1}, Other: 3, Value: 1}}
	for _, x := range flaws() {
		for _, c := range flawed(x.change) {
			for _, f := range l {
				expectCheck(t, x.name, c, f, x.want)
			}
		}
	}
	for _, c := range []api.Circuit{withMemory(), full()} {
		for _, f := range l {
			expectCheck(t, "with a memory", c, f, api.ErrKind)
		}
		c.Nodes, c.Names = nil, nil
		expectCheck(t, "without nodes, but with ports", c, api.Fault{}, api.ErrArg)
	}
	for _, f := range l {
		expectCheck(t, "without nodes", api.Circuit{}, f, api.ErrArg)
		c := example()
		c.Mems = []api.Memory{}
		expectCheck(t, "no memories", c, f, checkError(example(), f))
	}
	r := random(1212)
	seen := map[api.Errno]int{}
	for range 2000 {
		c := r.broken()
		for _, f := range l {
			e := checkError(c, f)
			expectCheck(t, "a broken circuit", c, f, e)
			seen[e]++
		}
	}
	if seen[api.ErrArg] < 100 || seen[api.ErrKind] < 100 || seen[api.ErrWidth] < 100 {
		t.Errorf("errors of broken circuits: %v", seen)
	}
}

// mistake is a change of a circuit and a fault after which Check returns an error.
type mistake struct {
	name   string
	rank   int // the place of the error in the chapter's list
	want   api.Errno
	change func(c *api.Circuit, f *api.Fault)
}

// mistakes returns changes of the circuit of sheet and the fault wired 2 3 0 or strong 2 3, each of which leaves the others' effects.
func mistakes() []mistake {
	return []mistake{
		{"a loop of nodes", 1, api.ErrLoop, func(c *api.Circuit, _ *api.Fault) {
			c.Nodes = append(c.Nodes, in(api.Buf, len(c.Nodes)))
			*c = named(*c)
		}},
		{"a pin that reads no node", 1, api.ErrArg, func(c *api.Circuit, _ *api.Fault) { c.Nodes[9].In = []int{8, 77} }},
		{"too many outputs", 1, api.ErrLimit, func(c *api.Circuit, _ *api.Fault) { c.Outs = make([]int, api.MaxNodes+1) }},
		{"a memory", 2, api.ErrKind, func(c *api.Circuit, _ *api.Fault) {
			c.Mems = []api.Memory{{Addr: []int{0}, Data: []int{0}}}
		}},
		{"a model above Strong", 3, api.ErrArg, func(_ *api.Circuit, f *api.Fault) { f.Model = 4 }},
		{"a value above V1", 3, api.ErrArg, func(_ *api.Circuit, f *api.Fault) { f.Value = api.VX }},
		{"no node", 3, api.ErrArg, func(_ *api.Circuit, f *api.Fault) { f.Line.Node = -1 }},
		{"no pin", 3, api.ErrArg, func(_ *api.Circuit, f *api.Fault) { f.Line.Pin = 17 }},
		{"a pin", 4, api.ErrArg, func(_ *api.Circuit, f *api.Fault) { f.Line.Pin = 0 }},
		{"no other node", 4, api.ErrArg, func(_ *api.Circuit, f *api.Fault) { f.Other = 99 }},
		{"equal nets", 4, api.ErrArg, func(_ *api.Circuit, f *api.Fault) { f.Other = f.Line.Node }},
		{"a Tri at the line", 5, api.ErrKind, func(c *api.Circuit, f *api.Fault) { c.Nodes[2] = in(api.Tri, 0, 0) }},
		{"a Tri at the other net", 5, api.ErrKind, func(c *api.Circuit, f *api.Fault) { c.Nodes[3] = in(api.Tri, 1, 1) }},
		{"dependence on the other net", 6, api.ErrLoop, func(c *api.Circuit, _ *api.Fault) { c.Nodes[2].In = extended(c.Nodes[2], 3) }},
		{"dependence of the other net", 6, api.ErrLoop, func(c *api.Circuit, _ *api.Fault) { c.Nodes[3].In = extended(c.Nodes[3], 2) }},
	}
}

// extended returns the pins of a node, the last of which reads another net.
func extended(n api.Node, net int) []int {
	return append(append([]int(nil), n.In[:len(n.In)-1]...), net)
}

// TestCheckTwo makes every two mistakes in both orders.
func TestCheckTwo(t *testing.T) {
	l := mistakes()
	for _, s := range []string{"wired 2 3 0", "wired 2 3 1", "strong 2 3"} {
		expectCheck(t, "no mistake", read(sheet), parsed(s), api.OK)
		for _, first := range l {
			for _, second := range l {
				c, f := read(sheet), parsed(s)
				first.change(&c, &f)
				second.change(&c, &f)
				name, want := first.name+", "+second.name, first.want
				if second.rank < first.rank {
					want = second.want
				}
				if first.rank == 1 && second.rank == 1 {
					want = netlists.Check(c)
				}
				expectCheck(t, name, c, f, want)
			}
		}
	}
	for _, x := range []struct {
		name string
		s    string
		v    api.Value
		want api.Errno
	}{
		{"Wired from the higher net, a Tri", "wired 8 5 0", 0, api.ErrArg},
		{"Wired from the higher net that is a Tri", "wired 5 0 0", 0, api.ErrArg},
		{"Wired from the higher net, dependent", "wired 4 0 0", 0, api.ErrArg},
		{"Strong with a value, a Tri", "strong 5 8", 1, api.ErrArg},
		{"Strong with a value, another Tri", "strong 8 6", 1, api.ErrArg},
		{"Strong with a value, dependent", "strong 4 0", 1, api.ErrArg},
		{"a Tri and what it depends on", "wired 0 5 0", 0, api.ErrKind},
		{"a Tri and what depends on it", "strong 7 6", 0, api.ErrKind},
	} {
		f := parsed(x.s)
		f.Value = x.v
		expectCheck(t, x.name, read(sheet), f, x.want)
	}
}

// TestCheckAll compares Check with the chapter's words for all faults of small circuits, valid or not.
func TestCheckAll(t *testing.T) {
	seen := map[api.Errno]int{}
	for _, c := range circuits(30, 7) {
		if len(c.Nodes) > 8 {
			continue
		}
		nodes := around(0, len(c.Nodes)-1)
		for _, f := range product(models()[:6], nodes, []int{math.MinInt, -2, -1, 0, 1, 2, 3, math.MaxInt}, nodes, []api.Value{0, 1, 2, 255}) {
			e := Check(c, f)
			if want := checkError(c, f); e != want {
				t.Errorf("%+v: Check returns %d for %+v, not %d", c.Nodes, e, f, want)
			}
			seen[e]++
		}
	}
	for _, e := range []api.Errno{api.OK, api.ErrArg, api.ErrKind, api.ErrLoop} {
		if seen[e] < 50 {
			t.Errorf("faults with error %d: %d", e, seen[e])
		}
	}
}

// TestCheckLarge has circuits at the limits: dependence through as many nodes as there may be.
func TestCheckLarge(t *testing.T) {
	n := api.MaxNodes
	nodes := make([]api.Node, n)
	for i := range nodes {
		nodes[i] = in(api.Not, i+1)
	}
	nodes[n-1], nodes[n/2] = in(api.Input), in(api.And, n/2+1, n-1)
	c := of(nodes...)
	bridge := func(a, b int) api.Fault {
		return api.Fault{Model: api.Strong, Line: api.Line{Node: a, Pin: -1}, Other: b}
	}
	for _, x := range [][2]int{{0, n - 1}, {n - 1, 0}, {n - 1, n - 2}, {1, n / 2}, {n/2 + 1, 0}} {
		expectCheck(t, "a chain", c, bridge(x[0], x[1]), api.ErrLoop)
	}
	expectCheck(t, "a chain", c, bridge(n-1, n), api.ErrArg)
	expectCheck(t, "a chain", c, api.Fault{Line: api.Line{Node: n - 2, Pin: 0}}, api.OK)
	nodes[n/2] = in(api.Dff, n/2+1)
	c = of(nodes...)
	for _, x := range [][2]int{{0, n - 1}, {n - 1, 0}, {n/2 + 1, n / 2}, {n / 2, n/2 + 1}, {1, n/2 + 1}} {
		expectCheck(t, "a chain with a Dff", c, bridge(x[0], x[1]), api.OK)
	}
	expectCheck(t, "a chain with a Dff", c, bridge(0, n/2), api.ErrLoop)
	expectCheck(t, "a chain with a Dff", c, bridge(n-1, n/2+1), api.ErrLoop)
}
