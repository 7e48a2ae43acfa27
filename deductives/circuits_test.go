package deductives_test

import (
	"math"
	"slices"
	"strconv"
	"strings"
	"testing"

	"probecard/api"
	"probecard/benches"
	"probecard/faults"
	"probecard/logic"
	"probecard/netlists"
	"probecard/sims"
)

// read returns the circuit of a text whose lines are separated by semicolons.
func read(s string) api.Circuit {
	c, f := benches.Read(strings.ReplaceAll(s, "; ", "\n"))
	if f.E != api.OK {
		panic("no circuit: " + s)
	}
	return c
}

// parsed returns the fault with a text, which begins with the line if it is a stuck one.
func parsed(s string) api.Fault {
	if s[0] >= '0' && s[0] <= '9' {
		s = "stuck " + s
	}
	f, e := faults.Parse(s)
	if e != api.OK {
		panic("no fault: " + s)
	}
	return f
}

// list returns the faults of a text, which are separated by commas.
func list(s string) []api.Fault {
	var l []api.Fault
	for _, word := range words(s) {
		l = append(l, parsed(word))
	}
	return l
}

// words returns the parts of a text, which are separated by commas; the empty text has none.
func words(s string) []string {
	if s == "" {
		return nil
	}
	return strings.Split(s, ", ")
}

// texts returns the text of the faults of l with some indices: the reverse of list for stuck faults.
func texts(l []api.Fault, indices []int) string {
	var out []string
	for _, i := range indices {
		out = append(out, strings.TrimPrefix(faults.Text(l[i]), "stuck "))
	}
	return strings.Join(out, ", ")
}

// values returns the values of a text.
func values(s string) []api.Value {
	l, e := logic.Parse(s)
	if e != api.OK {
		panic("no values: " + s)
	}
	return l
}

// patternOf returns the pattern of a text: the values of In, and behind a space those of State.
func patternOf(s string) api.Pattern {
	in, state, _ := strings.Cut(s, " ")
	return api.Pattern{In: values(in), State: values(state)}
}

// named returns the circuit with names for its nodes.
func named(c api.Circuit) api.Circuit {
	c.Names = nil
	for i := range c.Nodes {
		c.Names = append(c.Names, "n"+strconv.Itoa(i))
	}
	return c
}

// of returns a circuit with the given nodes and outputs.
func of(outs []int, nodes ...api.Node) api.Circuit {
	return named(api.Circuit{Nodes: nodes, Outs: outs})
}

// in returns a node that reads the given nets.
func in(kind api.Kind, nets ...int) api.Node { return api.Node{Kind: kind, In: nets} }

// at returns a line.
func at(node, pin int) api.Line { return api.Line{Node: node, Pin: pin} }

// example returns the circuit of the chapter's example.
func example() api.Circuit { return read("INPUT(a); INPUT(b); g = AND(a, b); OUTPUT(g)") }

// gates returns a plain circuit with nodes of all kinds that it may have, whose indices do not ascend with the levels. Loops lead through its Dff nodes, one of which reads itself.
// Its inputs are the nodes 1, 3 and 19, its states 2, 5 and 20.
func gates() api.Circuit {
	return of([]int{17, 15, 17, 7, 19, 1, 13},
		in(api.Or, 11, 3),       // 0
		in(api.Input),           // 1
		in(api.Dff, 17),         // 2
		in(api.Input),           // 3
		in(api.One),             // 4
		in(api.Dff, 5),          // 5
		in(api.Zero),            // 6
		in(api.Nand, 1, 10),     // 7
		in(api.Nor, 3, 2),       // 8
		in(api.And, 1, 3, 4, 3), // 9
		in(api.Nand, 9, 2),      // 10
		in(api.Nor, 6, 16),      // 11
		in(api.Xor, 0, 10, 5),   // 12
		in(api.Xnor, 12, 1),     // 13
		in(api.Mux, 3, 13, 2),   // 14
		in(api.Not, 14),         // 15
		in(api.Buf, 1),          // 16
		in(api.Xor, 7, 8, 7),    // 17
		in(api.Buf, 17),         // 18
		in(api.Input),           // 19
		in(api.Dff, 7),          // 20
	)
}

// withMemory returns the circuit gates with a memory that no Mem node reads.
func withMemory() api.Circuit {
	c := gates()
	c.Mems = []api.Memory{{Addr: []int{1, 0}, Data: []int{5}, Write: 17}}
	return c
}

// withMemNode returns the circuit gates with a memory, and a Mem node in place of an input.
func withMemNode() api.Circuit {
	c := withMemory()
	c.Nodes[19].Kind = api.Mem
	return c
}

// withTri returns the circuit gates with a Tri node that no node reads.
func withTri() api.Circuit {
	c := gates()
	c.Nodes[18] = in(api.Tri, 3, 1)
	return c
}

// withBus returns the circuit withTri with a Bus node that reads the Tri node.
func withBus() api.Circuit {
	c := withTri()
	c.Nodes[17] = in(api.Bus, 18, 18)
	return c
}

// random is a linear congruential generator, so that every run has the same circuits.
type random uint64

// below returns a number from 0 to n-1.
func (r *random) below(n int) int {
	*r = *r*6364136223846793005 + 1442695040888963407
	return int((uint64(*r) >> 33) % uint64(n))
}

// numbers returns count numbers from least to n-1.
func (r *random) numbers(count, least, n int) []int {
	l := make([]int, count)
	for i := range l {
		l[i] = least + r.below(n-least)
	}
	return l
}

// permutation returns the numbers from 0 to n-1 in some order.
func (r *random) permutation(n int) []int {
	l := make([]int, n)
	for i := range l {
		k := r.below(i + 1)
		l[i], l[k] = l[k], i
	}
	return l
}

// values returns count values below limit, most of them known.
func (r *random) values(count int, limit api.Value) []api.Value {
	l := make([]api.Value, count)
	for i := range l {
		l[i] = api.Value(r.below(2))
		if r.below(3) == 0 {
			l[i] = api.Value(r.below(int(limit)))
		}
	}
	return l
}

// pattern returns a pattern for c with values below limit.
func (r *random) pattern(c api.Circuit, limit api.Value) api.Pattern {
	return api.Pattern{In: r.values(len(netlists.Inputs(c)), limit), State: r.values(len(netlists.States(c)), limit)}
}

// full returns a pattern for c whose values are 0 and 1.
func (r *random) full(c api.Circuit) api.Pattern { return r.pattern(c, 2) }

// node returns the next node of a plain circuit of n nodes. Unless it is a Dff, it reads some of the nodes before it, often the same one twice.
func (r *random) node(c api.Circuit, n int) api.Node {
	i := len(c.Nodes)
	least := max(0, i-1-r.below(12))
	switch kind := api.Kind(r.below(18)); {
	case kind == api.Dff:
		return in(api.Dff, r.below(n))
	case i == 0 || kind == api.Input:
		return in(api.Input)
	case kind == api.Zero || kind == api.One:
		return in(kind)
	case kind == api.Mux:
		return in(kind, r.numbers(3, least, i)...)
	case kind >= api.And && kind <= api.Xnor && r.below(12) == 0:
		return in(kind, r.numbers(api.MaxFanin, least, i)...)
	case kind >= api.And && kind <= api.Xnor:
		return in(kind, r.numbers(2+r.below(2), least, i)...)
	}
	return in(api.Buf+api.Kind(r.below(2)), r.numbers(1, least, i)...)
}

// circuit returns a plain circuit of n nodes, in no particular order.
func (r *random) circuit(n int) api.Circuit {
	var c api.Circuit
	for range n {
		c.Nodes = append(c.Nodes, r.node(c, n))
	}
	c = renumbered(c, r.permutation(n))
	c.Outs = r.numbers(r.below(5), 0, n)
	return c
}

// renumbered returns the nodes of c with the index to[i] for each node i.
func renumbered(c api.Circuit, to []int) api.Circuit {
	nodes := make([]api.Node, len(c.Nodes))
	for i, n := range c.Nodes {
		m := api.Node{Kind: n.Kind}
		for _, net := range n.In {
			m.In = append(m.In, to[net])
		}
		nodes[to[i]] = m
	}
	return of(nil, nodes...)
}

// broken returns a circuit with random kinds, pins, ports and outputs, few of which are valid.
func (r *random) broken() api.Circuit {
	n := r.below(9)
	c := api.Circuit{Nodes: make([]api.Node, n), Outs: r.numbers(r.below(4), -2, n+3)}
	for i := range c.Nodes {
		c.Nodes[i] = api.Node{Kind: api.Kind(11 + r.below(7)), In: r.numbers(r.below(4), -2, n+3), Mem: r.below(3) - 1, Bit: r.below(3) - 1}
		if r.below(4) == 0 {
			c.Nodes[i].Kind = api.Input
		}
	}
	for range r.below(3) {
		c.Mems = append(c.Mems, api.Memory{Addr: r.numbers(r.below(3), -2, n+2), Data: r.numbers(r.below(3), -2, n+2), Write: r.below(n+4) - 2})
	}
	if r.below(2) == 0 {
		c = named(c)
	}
	return c
}

// tristate returns a circuit of at least one node with a Tri node more, and often with a Bus node.
func (r *random) tristate(c api.Circuit) api.Circuit {
	n := len(c.Nodes)
	nodes := append(slices.Clone(c.Nodes), in(api.Tri, r.numbers(2, 0, n)...))
	if r.below(2) == 0 {
		nodes = append(nodes, in(api.Bus, n))
	}
	return of(c.Outs, nodes...)
}

// faults returns count elements of l, some of them repeatedly, or none if there is none.
func (r *random) faults(count int, l []api.Fault) []api.Fault {
	var out []api.Fault
	for range count {
		if len(l) > 0 {
			out = append(out, l[r.below(len(l))])
		}
	}
	return out
}

// all returns the faults of some models of a valid circuit without memories.
func all(c api.Circuit, models ...api.Model) []api.Fault {
	var l []api.Fault
	for _, m := range models {
		more, e := faults.All(c, m)
		if e != api.OK {
			panic("no list of faults: " + strconv.Itoa(int(e)))
		}
		l = append(l, more...)
	}
	return l
}

// circuits returns ordinary plain circuits and random ones of up to most nodes.
func circuits(count, most int) []api.Circuit {
	l := []api.Circuit{
		{}, example(), gates(),
		of([]int{1}, in(api.Input), in(api.Dff, 0)),
		of([]int{0, 1, 0}, in(api.Dff, 1), in(api.Not, 0)),
		of(nil, in(api.Dff, 0), in(api.Dff, 0), in(api.Dff, 1)),
		of([]int{0}, in(api.Nor, 2, 2), in(api.One), in(api.Input)),
		of([]int{0, 0}, in(api.Zero)),
		of([]int{3}, in(api.Input), in(api.Mux, 0, 2, 0), in(api.Not, 0), in(api.Xor, 1, 0, 1, 2)),
	}
	r := random(count + most)
	for range count {
		l = append(l, r.circuit(1+r.below(most)))
	}
	return l
}

// small returns plain circuits with at most so many inputs and states, so that all their patterns can be tried.
func small(count, nodes, most int) []api.Circuit {
	return slices.DeleteFunc(circuits(count, nodes), func(c api.Circuit) bool {
		p := sims.Blank(c)
		return len(p.In)+len(p.State) > most
	})
}

// allPatterns returns all full patterns of a circuit.
func allPatterns(c api.Circuit) []api.Pattern {
	blank := sims.Blank(c)
	ins, n := len(blank.In), len(blank.In)+len(blank.State)
	var l []api.Pattern
	for k := range 1 << n {
		chosen := make([]api.Value, n)
		for i := range chosen {
			chosen[i] = api.Value(k >> i & 1)
		}
		l = append(l, api.Pattern{In: chosen[:ins:ins], State: chosen[ins:]})
	}
	return l
}

// flaw is a change that makes the circuits gates, withMemory, withMemNode, withTri and withBus invalid.
type flaw struct {
	name   string
	want   api.Errno
	change func(c *api.Circuit)
}

// flaws returns flaws with each of the errors of a circuit, and with two of them.
func flaws() []flaw {
	return []flaw{
		{"too many nodes", api.ErrLimit, func(c *api.Circuit) { c.Nodes = make([]api.Node, api.MaxNodes+1); *c = named(*c) }},
		{"too many memories", api.ErrLimit, func(c *api.Circuit) { c.Mems = make([]api.Memory, api.MaxMems+1) }},
		{"too many outputs", api.ErrLimit, func(c *api.Circuit) { c.Outs = make([]int, api.MaxNodes+1) }},
		{"a name too few", api.ErrWidth, func(c *api.Circuit) { c.Names = c.Names[1:] }},
		{"no kind", api.ErrKind, func(c *api.Circuit) { c.Nodes[4].Kind = 16 }},
		{"a Dff of two pins", api.ErrWidth, func(c *api.Circuit) { c.Nodes[2].In = []int{0, 1} }},
		{"a Dff of no pins", api.ErrWidth, func(c *api.Circuit) { c.Nodes[5].In = nil }},
		{"a pin behind the nodes", api.ErrArg, func(c *api.Circuit) { c.Nodes[10].In[1] = len(c.Nodes) }},
		{"a Dff that reads no node", api.ErrArg, func(c *api.Circuit) { c.Nodes[20].In[0] = -1 }},
		{"a bus of a gate", api.ErrKind, func(c *api.Circuit) { c.Nodes[17] = in(api.Bus, 16) }},
		{"a Mem node without memory", api.ErrArg, func(c *api.Circuit) { c.Nodes[1].Kind, c.Mems = api.Mem, nil }},
		{"a Buf with a bit", api.ErrArg, func(c *api.Circuit) { c.Nodes[16].Bit = 1 }},
		{"the same name", api.ErrName, func(c *api.Circuit) { c.Names[20] = c.Names[3] }},
		{"a memory without address", api.ErrWidth, func(c *api.Circuit) { c.Mems = append(c.Mems, api.Memory{Data: []int{0}}) }},
		{"an output behind the nodes", api.ErrArg, func(c *api.Circuit) { c.Outs[2] = math.MaxInt }},
		{"a loop", api.ErrLoop, func(c *api.Circuit) { c.Nodes[11].In[0] = 12 }},
		{"a Buf that reads itself", api.ErrLoop, func(c *api.Circuit) { c.Nodes[16].In[0] = 16 }},
		{"an output, and a loop", api.ErrArg, func(c *api.Circuit) { c.Outs[0], c.Nodes[16].In[0] = -1, 16 }},
		{"a name, and an output", api.ErrName, func(c *api.Circuit) { c.Names[0], c.Outs[0] = "a b", -1 }},
	}
}

// flawed returns the circuits gates, withMemory, withMemNode, withTri and withBus after a change.
func flawed(change func(c *api.Circuit)) []api.Circuit {
	l := []api.Circuit{gates(), withMemory(), withMemNode(), withTri(), withBus()}
	for i := range l {
		change(&l[i])
	}
	return l
}

// TestCircuits checks that the circuits of the other tests are plain and have all kinds of nodes, and that the others have their errors.
func TestCircuits(t *testing.T) {
	kinds := map[api.Kind]int{}
	for i, c := range circuits(300, 25) {
		if e := netlists.Check(c); e != api.OK || len(c.Mems) > 0 {
			t.Errorf("circuit %d: error %d and %d memories", i, e, len(c.Mems))
		}
		for _, n := range c.Nodes {
			kinds[n.Kind]++
		}
	}
	for kind := range api.Mem + 1 {
		isPlain := kind != api.Tri && kind != api.Bus && kind != api.Mem
		if isPlain && kinds[kind] < 50 || !isPlain && kinds[kind] > 0 {
			t.Errorf("%d nodes of kind %d", kinds[kind], kind)
		}
	}
	r := random(166)
	for i, c := range []api.Circuit{withMemory(), withMemNode(), withTri(), withBus(), r.tristate(gates()), r.tristate(gates())} {
		if e := netlists.Check(c); e != api.OK {
			t.Errorf("circuit %d that is not plain: error %d", i, e)
		}
	}
	for _, f := range flaws() {
		for _, c := range flawed(f.change) {
			if e := netlists.Check(c); e != f.want {
				t.Errorf("%s: netlists.Check returns %d, not %d", f.name, e, f.want)
			}
		}
	}
}
