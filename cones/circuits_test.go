package cones_test

import (
	"math"
	"slices"
	"strconv"
	"testing"

	"probecard/api"
	. "probecard/cones"
	"probecard/netlists"
)

// wrong returns values that are not an index into a slice of n elements.
func wrong(n int) []int {
	return []int{-1, n, n + 1, math.MinInt, math.MaxInt, 1 << 32, -1 << 32}
}

// named returns the circuit with names for its nodes.
func named(c api.Circuit) api.Circuit {
	c.Names = nil
	for i := range c.Nodes {
		c.Names = append(c.Names, "n"+strconv.Itoa(i))
	}
	return c
}

// of returns a circuit with the given nodes and outputs.
func of(outs []int, nodes ...api.Node) api.Circuit {
	return named(api.Circuit{Nodes: nodes, Outs: outs})
}

// in returns a node that reads the given nets.
func in(kind api.Kind, nets ...int) api.Node { return api.Node{Kind: kind, In: nets} }

// example returns the circuit of the chapter's example.
func example() api.Circuit {
	c := of([]int{4}, in(api.Input), in(api.Not, 0), in(api.And, 0, 1), in(api.Not, 2), in(api.Or, 3, 1))
	c.Names = []string{"a", "n", "g", "m", "h"}
	return c
}

// full returns a valid circuit with nodes of all kinds, whose indices do not ascend with the levels. Loops lead through its Dff nodes and its memories.
// Observed are the outputs 12 and 25, the data 20 and 21 of the Dff nodes, and the ports 0, 6, 7, 9, 15, 16 and 20 of the memories.
func full() api.Circuit {
	return named(api.Circuit{
		Nodes: []api.Node{
			0:  in(api.Input),
			1:  in(api.Buf, 0),
			2:  in(api.Dff, 20),
			3:  in(api.Zero),
			4:  in(api.One),
			5:  in(api.Bus, 18, 19),
			6:  in(api.Input),
			7:  {Kind: api.Mem, Mem: 0, Bit: 1},
			8:  {Kind: api.Mem, Mem: 1, Bit: 0},
			9:  in(api.Not, 1),
			10: in(api.And, 9, 2),
			11: in(api.Nand, 10, 4, 0),
			12: in(api.Or, 11, 7),
			13: in(api.Nor, 3, 12, 12),
			14: in(api.Xor, 13, 6),
			15: in(api.Xnor, 14, 8),
			16: in(api.Mux, 6, 15, 10),
			17: in(api.Buf, 24),
			18: in(api.Tri, 0, 16),
			19: in(api.Tri, 6, 2),
			20: in(api.Bus, 19, 18, 18),
			21: in(api.Dff, 21),
			22: in(api.Input),
			23: in(api.Or, 22, 21),
			24: in(api.And, 23, 18),
			25: in(api.Not, 5),
		},
		Mems: []api.Memory{
			{Addr: []int{0, 7}, Data: []int{9, 20}, Write: 6},
			{Addr: []int{6, 6, 0}, Data: []int{15}, Write: 16},
		},
		Outs: []int{25, 12, 25},
	})
}

// chain returns an Input and n-1 Buf nodes, of which each reads the one before it, or behind it if step is 1 (otherwise -1).
func chain(n, step int, outs ...int) api.Circuit {
	nodes := make([]api.Node, n)
	for i := range nodes {
		if from := i + step; from >= 0 && from < n {
			nodes[i] = in(api.Buf, from)
		}
	}
	return of(outs, nodes...)
}

// random is a linear congruential generator, so that every run has the same circuits.
type random uint64

// below returns a number from 0 to n-1.
func (r *random) below(n int) int {
	*r = *r*6364136223846793005 + 1442695040888963407
	return int((uint64(*r) >> 33) % uint64(n))
}

// numbers returns count numbers from least to n-1.
func (r *random) numbers(count, least, n int) []int {
	l := make([]int, count)
	for i := range l {
		l[i] = least + r.below(n-least)
	}
	return l
}

// permutation returns the numbers from 0 to n-1 in some order.
func (r *random) permutation(n int) []int {
	l := make([]int, n)
	for i := range l {
		k := r.below(i + 1)
		l[i], l[k] = l[k], i
	}
	return l
}

// node returns the node i of a circuit of n nodes. Unless it is a Dff, it reads some of the nodes before it, mostly of the last few ones.
func (r *random) node(nodes []api.Node, n int) api.Node {
	i := len(nodes)
	least := max(0, i-1-r.below(6))
	if r.below(6) == 0 {
		least = 0
	}
	tris := filter(i, func(k int) bool { return nodes[k].Kind == api.Tri })
	switch kind := api.Kind(r.below(18)); {
	case kind == api.Dff:
		return in(kind, r.below(n))
	case i == 0 || kind == api.Input || kind == api.Mem:
		return in(api.Input)
	case kind == api.Zero || kind == api.One:
		return in(kind)
	case kind == api.Tri:
		return in(kind, r.numbers(2, least, i)...)
	case kind == api.Mux:
		return in(kind, r.numbers(3, least, i)...)
	case kind == api.Bus && len(tris) > 0:
		nets := r.numbers(1+r.below(3), 0, len(tris))
		for k := range nets {
			nets[k] = tris[nets[k]]
		}
		return in(kind, nets...)
	case kind >= api.And && kind <= api.Xnor:
		return in(kind, r.numbers(2+r.below(2), least, i)...)
	}
	return in(api.Buf+api.Kind(r.below(2)), r.numbers(1, least, i)...)
}

// circuit returns a valid circuit of n nodes, in no particular order.
func (r *random) circuit(n int) api.Circuit {
	var c api.Circuit
	for range n {
		c.Nodes = append(c.Nodes, r.node(c.Nodes, n))
	}
	for range r.below(8) / 6 {
		c.Mems = append(c.Mems, api.Memory{Addr: r.numbers(1+r.below(2), 0, n), Data: r.numbers(1+r.below(2), 0, n), Write: r.below(n)})
	}
	for i, node := range c.Nodes {
		if node.Kind == api.Input && len(c.Mems) > 0 && r.below(3) == 0 {
			mem := r.below(len(c.Mems))
			c.Nodes[i] = api.Node{Kind: api.Mem, Mem: mem, Bit: r.below(len(c.Mems[mem].Data))}
		}
	}
	c.Outs = r.numbers(r.below(4), max(0, n-1-r.below(n)), n)
	return renumbered(named(c), r.permutation(n))
}

// renumbered returns c with the index to[i] for each node i.
func renumbered(c api.Circuit, to []int) api.Circuit {
	nets := func(l []int) []int {
		var out []int
		for _, net := range l {
			out = append(out, to[net])
		}
		return out
	}
	d := api.Circuit{Nodes: make([]api.Node, len(c.Nodes)), Names: make([]string, len(c.Nodes)), Outs: nets(c.Outs)}
	for i, n := range c.Nodes {
		n.In = nets(n.In)
		d.Nodes[to[i]], d.Names[to[i]] = n, c.Names[i]
	}
	for _, m := range c.Mems {
		d.Mems = append(d.Mems, api.Memory{Addr: nets(m.Addr), Data: nets(m.Data), Write: to[m.Write]})
	}
	return d
}

// filter returns the numbers from 0 to n-1 for which f is true.
func filter(n int, f func(i int) bool) []int {
	var l []int
	for i := range n {
		if f(i) {
			l = append(l, i)
		}
	}
	return l
}

// circuits returns ordinary circuits and random ones of up to most nodes.
func circuits(count, most int) []api.Circuit {
	l := []api.Circuit{{}, example(), full(), chain(12, 1, 0), chain(12, -1, 11, 7), chain(12, 1)}
	r := random(count + most)
	for range count {
		l = append(l, r.circuit(1+r.below(most)))
	}
	return l
}

// call is a call of a function that returns an error, with all its arguments but the circuit.
type call struct {
	name string
	of   func(c api.Circuit) ([]int, api.Errno)
}

// callsAt returns calls that take the node n.
func callsAt(n int) []call {
	at := "(" + strconv.Itoa(n) + ")"
	return []call{
		{"Fanin" + at, func(c api.Circuit) ([]int, api.Errno) { return Fanin(c, n) }},
		{"Fanin of 0 and" + at, func(c api.Circuit) ([]int, api.Errno) { return Fanin(c, 0, n) }},
		{"Fanin of and 0" + at, func(c api.Circuit) ([]int, api.Errno) { return Fanin(c, n, 0, 0) }},
		{"Fanout" + at, func(c api.Circuit) ([]int, api.Errno) { return Fanout(c, n) }},
		{"Fanout of 0 and" + at, func(c api.Circuit) ([]int, api.Errno) { return Fanout(c, 0, n) }},
		{"Fanout of and 0" + at, func(c api.Circuit) ([]int, api.Errno) { return Fanout(c, n, 0, 0) }},
		{"Dominators" + at, func(c api.Circuit) ([]int, api.Errno) { return Dominators(c, n) }},
		{"Meets" + at, func(c api.Circuit) ([]int, api.Errno) { return Meets(c, n) }},
	}
}

// callsWithout returns calls that take no node.
func callsWithout() []call {
	return []call{
		{"Fanin()", func(c api.Circuit) ([]int, api.Errno) { return Fanin(c) }},
		{"Fanout()", func(c api.Circuit) ([]int, api.Errno) { return Fanout(c) }},
		{"Regions", Regions},
		{"Stems", Stems},
	}
}

// expectError checks that a call returns an error and nothing else.
func expectError(t *testing.T, name string, c api.Circuit, f call, want api.Errno) {
	t.Helper()
	if l, e := f.of(c); e != want || len(l) != 0 {
		t.Errorf("%s, %s: %v with error %d, not %d", name, f.name, l, e, want)
	}
}

// expectList checks that a call returns a list and no error.
func expectList(t *testing.T, name string, got []int, e api.Errno, want ...int) {
	t.Helper()
	if e != api.OK || !slices.Equal(got, want) {
		t.Errorf("%s: %v, not %v, with error %d", name, got, want, e)
	}
}

// flaw is a change that makes the circuit full invalid.
type flaw struct {
	name   string
	want   api.Errno
	change func(c *api.Circuit)
}

// flaws returns flaws with each of the errors of a circuit, and with two of them.
func flaws() []flaw {
	return []flaw{
		{"too many nodes", api.ErrLimit, func(c *api.Circuit) { *c = chain(api.MaxNodes+1, -1) }},
		{"too many memories", api.ErrLimit, func(c *api.Circuit) { c.Mems = make([]api.Memory, api.MaxMems+1) }},
		{"too many outputs", api.ErrLimit, func(c *api.Circuit) { c.Outs = make([]int, api.MaxNodes+1) }},
		{"a name too few", api.ErrWidth, func(c *api.Circuit) { c.Names = c.Names[1:] }},
		{"no kind", api.ErrKind, func(c *api.Circuit) { c.Nodes[4].Kind = 16 }},
		{"a Dff of two pins", api.ErrWidth, func(c *api.Circuit) { c.Nodes[2].In = []int{0, 1} }},
		{"an And of one pin", api.ErrWidth, func(c *api.Circuit) { c.Nodes[10].In = []int{0} }},
		{"a pin behind the nodes", api.ErrArg, func(c *api.Circuit) { c.Nodes[10].In[1] = 26 }},
		{"a pin before the nodes", api.ErrArg, func(c *api.Circuit) { c.Nodes[25].In[0] = -1 }},
		{"a bus of a gate", api.ErrKind, func(c *api.Circuit) { c.Nodes[5].In[1] = 16 }},
		{"no such memory", api.ErrArg, func(c *api.Circuit) { c.Nodes[8].Mem = 2 }},
		{"no name", api.ErrName, func(c *api.Circuit) { c.Names[25] = "" }},
		{"the same name", api.ErrName, func(c *api.Circuit) { c.Names[25] = c.Names[3] }},
		{"a memory without address", api.ErrWidth, func(c *api.Circuit) { c.Mems[1].Addr = nil }},
		{"a port behind the nodes", api.ErrArg, func(c *api.Circuit) { c.Mems[1].Write = 26 }},
		{"an output behind the nodes", api.ErrArg, func(c *api.Circuit) { c.Outs[2] = math.MaxInt }},
		{"a loop", api.ErrLoop, func(c *api.Circuit) { c.Nodes[10].In[1] = 14 }},
		{"a node that reads itself", api.ErrLoop, func(c *api.Circuit) { c.Nodes[25].In[0] = 25 }},
		{"an output, and a loop", api.ErrArg, func(c *api.Circuit) { c.Outs[0], c.Nodes[25].In[0] = -1, 25 }},
		{"a name, and an output", api.ErrName, func(c *api.Circuit) { c.Names[0], c.Outs[0] = "a b", -1 }},
	}
}

// P5.2 to P5.5, the errors

func TestErrors(t *testing.T) {
	for _, f := range flaws() {
		c := full()
		f.change(&c)
		calls := callsWithout()
		for _, n := range append([]int{0, 5, 25}, wrong(len(c.Nodes))...) {
			calls = append(calls, callsAt(n)...)
		}
		for _, call := range calls {
			expectError(t, f.name, c, call, f.want)
		}
	}
}

func TestErrArg(t *testing.T) {
	for i, c := range []api.Circuit{full(), example(), chain(1, 1, 0), chain(300, 1)} {
		name := "circuit " + strconv.Itoa(i)
		for _, n := range wrong(len(c.Nodes)) {
			for _, call := range callsAt(n) {
				expectError(t, name, c, call, api.ErrArg)
			}
		}
		for n := range c.Nodes {
			for _, call := range callsAt(n) {
				if _, e := call.of(c); e != api.OK {
					t.Errorf("%s, %s: error %d", name, call.name, e)
				}
			}
		}
	}
}

func TestEmptyCircuit(t *testing.T) {
	if l := Points(api.Circuit{}); len(l) != 0 {
		t.Errorf("Points of nothing: %v", l)
	}
	for _, call := range callsWithout() {
		expectError(t, "no nodes", api.Circuit{}, call, api.OK)
	}
	for _, n := range []int{0, 1, -1, math.MaxInt, math.MinInt} {
		for _, call := range callsAt(n) {
			expectError(t, "no nodes", api.Circuit{}, call, api.ErrArg)
		}
	}
}

// TestRandomCircuits checks that the circuits of the other tests are valid and not all alike.
func TestRandomCircuits(t *testing.T) {
	kinds := map[api.Kind]int{}
	mems, unobserved := 0, 0
	for i, c := range circuits(300, 30) {
		if e := netlists.Check(c); e != api.OK {
			t.Errorf("circuit %d: error %d", i, e)
		}
		for _, n := range c.Nodes {
			kinds[n.Kind]++
		}
		mems += len(c.Mems)
		if len(Points(c)) == 0 {
			unobserved++
		}
	}
	if len(kinds) != 16 || mems < 50 || unobserved < 5 {
		t.Errorf("%d kinds, %d memories, %d circuits without observation points", len(kinds), mems, unobserved)
	}
}
